/- Where a pipe with an Id stands: the model's l2Find; the search by halves of the program: contracts. Conditions: each theorem's own premises. -/
import Derived.Lib.Hide
import Derived.Test.YtgjogjmfpbinfaaChecked
import Derived.WalkKit
import Derived.ProofKit
import Derived.LoopTactic
import Derived.IntWalk
import Derived.WalkSpells
import Derived.WalkSmall
import Derived.Outline
import Derived.Below
import Derived.Deep.RegionWith
import Derived.Lib.QuietBelow
import Derived.BigQuiet
import Derived.Deep.QuietTactic
import Derived.Deep.OwnRows
import Derived.Laws.OwnMore
import Derived.Deep.AppendLies
import Derived.OwnWalk
import Derived.Maps.AppendAt
import Derived.Lib.SmallJoins
import Derived.Deep.Slices
import Derived.Deep.Fields
import Derived.ChangeSame
import Derived.OpenShut
import Derived.ArgAppend
import Derived.Laws.Append
import Derived.Deep.RegionHeld3
import Derived.Laws.NewBlocks
import Derived.Test.YtgjogjmfpbinfaaShelf
import Derived.Laws.CopyOwn
import Derived.Deep.RegionLaw
namespace Go.Proofs.Ytgjogjmfpbinfaa.P2

/-- A pipe. -/
structure Pp where
  id : Int
  fr : Int
  to : Int
  sz : Int
deriving DecidableEq, Inhabited

def PpOk (n : Int) (p : Pp) : Prop := 1 ≤ p.id ∧ p.id ≤ 99 ∧ 1 ≤ p.fr ∧ p.fr ≤ n ∧ 1 ≤ p.to ∧ p.to ≤ n ∧ p.fr ≠ p.to ∧ 1 ≤ p.sz ∧ p.sz ≤ 9
instance (n : Int) (p : Pp) : Decidable (PpOk n p) := by unfold PpOk; infer_instance

/-- The first k pipes are fine, in strictly ascending order. -/
def OkTo (n : Int) (ps : List Pp) (k : Nat) : Prop := ∀ i, i < k → ∀ p, ps[i]? = some p → PpOk n p ∧ ∀ q, 0 < i → ps[i - 1]? = some q → q.id < p.id

theorem OkTo.zero (n : Int) (ps : List Pp) : OkTo n ps 0 := fun i h => absurd h (by omega)

def Good (n : Int) (ps : List Pp) : Prop := 1 ≤ n ∧ n ≤ 8 ∧ ps.length ≤ 10 ∧ OkTo n ps ps.length
open Classical in
noncomputable def goodB (n : Int) (ps : List Pp) : Bool := decide (Good n ps)
theorem good_of {n : Int} {ps : List Pp} (h : goodB n ps = true) : Good n ps := by simpa [goodB] using h
theorem good_mk {n : Int} {ps : List Pp} (h : Good n ps) : goodB n ps = true := by simpa [goodB] using h
theorem good_no {n : Int} {ps : List Pp} (h : ¬ Good n ps) : goodB n ps = false := by simpa [goodB] using h

def pAt (ps : List Pp) (i : Nat) : Pp := ps.getD i ⟨0, 0, 0, 0⟩
theorem pAt_get (ps : List Pp) (i : Nat) (h : i < ps.length) : ps[i]? = some (pAt ps i) := by
  unfold pAt; simp [List.getD, h]

theorem OkTo.next {n : Int} {ps : List Pp} {k : Nat} (h : OkTo n ps k) (hk : k < ps.length) (hp : PpOk n (pAt ps k)) (hq : 0 < k → (pAt ps (k - 1)).id < (pAt ps k).id) : OkTo n ps (k + 1) := by
  intro i hi p hip
  by_cases e : i = k
  · subst e
    rw [pAt_get ps i hk] at hip
    injection hip with hip
    subst hip
    refine ⟨hp, fun q h0 hq' => ?_⟩
    rw [pAt_get ps (i - 1) (by omega)] at hq'
    injection hq' with hq'
    subst hq'
    exact hq h0
  · exact h i (by omega) p hip
theorem OkTo.bad {n : Int} {ps : List Pp} {k : Nat} (hk : k < ps.length) (hb : ¬ PpOk n (pAt ps k) ∨ (0 < k ∧ (pAt ps k).id ≤ (pAt ps (k - 1)).id)) : ¬ Good n ps := by
  rintro ⟨_, _, _, h⟩
  obtain ⟨h1, h2⟩ := h k hk _ (pAt_get ps k hk)
  rcases hb with hb | ⟨h0, hb⟩
  · exact hb h1
  · have := h2 _ h0 (pAt_get ps (k - 1) (by omega))
    omega
end Go.Proofs.Ytgjogjmfpbinfaa.P2

namespace Go.Proofs.Ytgjogjmfpbinfaa.S2
open Go.RowKit P2

/-- A pipe as a value. -/
abbrev pv (p : Pp) : Value := .agg #[.int .i64 p.id, .int .i64 p.fr, .int .i64 p.to, .int .i64 p.sz]
def fitB (n : Int) (p : Pp) : Bool := decide (PpOk n p)
theorem bcell {W w1 : World} (hb : Below W.heap.size W w1) : (∀ b o, b < W.heap.size → w1.cell? ⟨b, o, none⟩ = W.cell? ⟨b, o, none⟩) ∧ (∀ b o, b < W.heap.size → w1.frozen? ⟨b, o, none⟩ = W.frozen? ⟨b, o, none⟩) :=
  ⟨fun b o h => hb.cell (p := ⟨b, o, none⟩) h, fun b o h => hb.frozen (p := ⟨b, o, none⟩) h⟩

theorem in_any (x a b : Int) (w : World) :
    Calls Try.prog 122 #[.int .i64 x, .int .i64 a, .int .i64 b] w fun e w' => e = .returned (.bool (decide (a ≤ x ∧ x ≤ b))) ∧ w' = w := by
  by_cases h1 : a ≤ x
  · have e : decide (a ≤ x ∧ x ≤ b) = decide (x ≤ b) := by simp [h1]
    rw [e]
    go_enter Try.func122, Try.ntmps122
    go_wp2
    go_ret
    exact ⟨rfl, rfl⟩
  · have e : decide (a ≤ x ∧ x ≤ b) = false := by simp [h1]
    rw [e]
    go_enter Try.func122, Try.ntmps122
    go_wp2
    go_ret
    exact ⟨rfl, rfl⟩

/-- It returns whether the pipe fits; what lay there stands. -/
def FitPost (n : Int) (p : Pp) (w : World) (e : Ending) (w' : World) : Prop := e = .returned (.bool (fitB n p)) ∧ Below w.heap.size w w'
theorem fit_post {n id fr to sz : Int} {w w' : World} {b : Bool} (h : b = true ↔ (1 ≤ id ∧ id ≤ 99 ∧ 1 ≤ fr ∧ fr ≤ n ∧ 1 ≤ to ∧ to ≤ n ∧ fr ≠ to ∧ 1 ≤ sz ∧ sz ≤ 9)) (hb : Below w.heap.size w w') : FitPost n ⟨id, fr, to, sz⟩ w (.returned (.bool b)) w' := by
  refine ⟨?_, hb⟩
  have e : fitB n ⟨id, fr, to, sz⟩ = b := by
    rw [Bool.eq_iff_iff, h]
    exact decide_eq_true_iff
  rw [e]

set_option maxHeartbeats 1000000 in
theorem fits_any (p : Pp) (n : Int) (w : World) :
    Calls Try.prog 202 #[pv p, .int .i64 n] w (FitPost n p w) := by
  obtain ⟨id, fr, to, sz⟩ := p
  go_enter Try.func202, Try.ntmps202
  go_wp2
  all_goals
    go_ret
    exact fit_post (by simp; omega) ((Below.refl _ _).alloc (Nat.le_refl _) _)

set_option maxHeartbeats 1000000 in
theorem sfits_any (p : Pp) (n : Int) (w : World) :
    Calls Try.prog 200 #[.int .i64 n, pv p] w (FitPost n p w) := by
  obtain ⟨id, fr, to, sz⟩ := p
  by_cases h1 : 1 ≤ id ∧ id ≤ 99
  · by_cases h2 : 1 ≤ fr ∧ fr ≤ n
    · by_cases h3 : 1 ≤ to ∧ to ≤ n
      · go_enter Try.func200, Try.ntmps200
        go_wp2_with (go_at_call 122; refine (in_any _ _ _ _).mono ?_; rintro e w' ⟨rfl, rfl⟩)
        all_goals
          go_ret
          exact fit_post (by simp; omega) ((Below.refl _ _).alloc (Nat.le_refl _) _)
      · go_enter Try.func200, Try.ntmps200
        go_wp2_with (go_at_call 122; refine (in_any _ _ _ _).mono ?_; rintro e w' ⟨rfl, rfl⟩)
        all_goals
          go_ret
          exact fit_post (by simp; omega) ((Below.refl _ _).alloc (Nat.le_refl _) _)
    · go_enter Try.func200, Try.ntmps200
      go_wp2_with (go_at_call 122; refine (in_any _ _ _ _).mono ?_; rintro e w' ⟨rfl, rfl⟩)
      all_goals
        go_ret
        exact fit_post (by simp; omega) ((Below.refl _ _).alloc (Nat.le_refl _) _)
  · go_enter Try.func200, Try.ntmps200
    go_wp2_with (go_at_call 122; refine (in_any _ _ _ _).mono ?_; rintro e w' ⟨rfl, rfl⟩)
    all_goals
      go_ret
      exact fit_post (by simp; omega) ((Below.refl _ _).alloc (Nat.le_refl _) _)
end Go.Proofs.Ytgjogjmfpbinfaa.S2

namespace Go.Proofs.Ytgjogjmfpbinfaa.S2
open Go.RowKit Go.Sort

theorem cell_g (W : World) (d : Nat) (os : Array Obj) (b o : Nat) (h : b < W.heap.size) : (grow (redrawn W d) os).cell? ⟨b, o, none⟩ = W.cell? ⟨b, o, none⟩ :=
  (below_regrown W d os).cell (p := ⟨b, o, none⟩) h
theorem of_regrown {W w' : World} (h : ∃ p : Regrown, w' = grow (redrawn W p.d) p.os) : Below W.heap.size W w' := by
  obtain ⟨p, rfl⟩ := h; exact below_regrown _ _ _
theorem region_below {P : Program} {id : Nat} {Q : Exit → Act → World → Prop} {a : Act} {w : World} {l : List Oper} (hm : P.follows .mixedOrders = true) (hB : Region.lexB .any l.toArray = true)
    (h : wpQuiet P l.toArray (fun w' => ∃ p : Regrown, w' = grow (redrawn w p.d) p.os) (fun a' => ∀ w', Below w.heap.size w w' → Q .normal a' w') l a) : (Code.region id l.toArray true).wp P Q a w :=
  wp_region_quiet_below hm hB (by
    have e : (fun a' => ∀ w', (∃ p : Regrown, w' = grow (redrawn w p.d) p.os) → Q .normal a' w') = fun a' => ∀ w', Below w.heap.size w w' → Q .normal a' w' := by
      funext a'
      refine propext ⟨fun h w' hb => h w' (regrown_of_below hb), fun h w' hb => h w' (of_regrown hb)⟩
    rw [e]; exact h)
/-- A callee whose contract ends in Below, met inside. -/
theorem met {P : Program} {f : FuncId} {args : Array Value} {w : World} {d : Nat} {os : Array Obj} {v : Value}
    (h : ∀ w, Calls P f args w fun e w' => e = .returned v ∧ Below w.heap.size w w') : Calls P f args (grow (redrawn w d) os) fun e w'' => e = .returned v ∧ ∃ p : Regrown, w'' = grow (redrawn w p.d) p.os :=
  Calls.regrown_of (h _)
end Go.Proofs.Ytgjogjmfpbinfaa.S2

namespace Go.Proofs.Ytgjogjmfpbinfaa.S2
open Go.RowKit P2

/-- The pipes ps lie there. -/
def PAt (w : World) (A : Option Addr) (ps : List Pp) : Prop :=
  ps = [] ∨ ∃ b off, A = some ⟨b, off, none⟩ ∧ b < w.heap.size ∧ ∀ i, i < ps.length →
    w.cell? ⟨b, off + i * 4, none⟩ = some (.int .i64 (pAt ps i).id) ∧ w.cell? ⟨b, off + i * 4 + 1, none⟩ = some (.int .i64 (pAt ps i).fr) ∧
    w.cell? ⟨b, off + i * 4 + 2, none⟩ = some (.int .i64 (pAt ps i).to) ∧ w.cell? ⟨b, off + i * 4 + 3, none⟩ = some (.int .i64 (pAt ps i).sz)
theorem PAt.kept {w w' : World} {A : Option Addr} {ps : List Pp} {B : Nat} (h : PAt w A ps) (hb : Below B w w') (hB : w.heap.size ≤ B) : PAt w' A ps := by
  rcases h with h | ⟨b, off, hA, hlt, h⟩
  · exact .inl h
  · refine .inr ⟨b, off, hA, Nat.lt_of_lt_of_le hlt hb.size, fun i hi => ?_⟩
    obtain ⟨h0, h1, h2, h3⟩ := h i hi
    have hc : ∀ o, w'.cell? ⟨b, o, none⟩ = w.cell? ⟨b, o, none⟩ := fun o => hb.cell (p := ⟨b, o, none⟩) (by show b < B; omega)
    rw [hc, hc, hc, hc]
    exact ⟨h0, h1, h2, h3⟩
theorem PAt.at_ {w : World} {A : Option Addr} {ps : List Pp} (h : PAt w A ps) {i : Nat} (hi : i < ps.length) : ∃ b off, A = some ⟨b, off, none⟩ ∧ b < w.heap.size ∧
    w.cell? ⟨b, off + i * 4, none⟩ = some (.int .i64 (pAt ps i).id) ∧ w.cell? ⟨b, off + i * 4 + 1, none⟩ = some (.int .i64 (pAt ps i).fr) ∧
    w.cell? ⟨b, off + i * 4 + 2, none⟩ = some (.int .i64 (pAt ps i).to) ∧ w.cell? ⟨b, off + i * 4 + 3, none⟩ = some (.int .i64 (pAt ps i).sz) := by
  rcases h with h | ⟨b, off, hA, hlt, h⟩
  · subst h; simp at hi
  · exact ⟨b, off, hA, hlt, h i hi⟩

theorem fits_yes (p : Pp) (n : Int) (h : fitB n p = true) : ∀ w, Calls Try.prog 202 #[pv p, .int .i64 n] w fun e w' => e = .returned (.bool true) ∧ Below w.heap.size w w' :=
  fun w => (fits_any p n w).mono fun _ _ ⟨he, hb⟩ => ⟨by rw [he, h], hb⟩
theorem fits_no (p : Pp) (n : Int) (h : fitB n p = false) : ∀ w, Calls Try.prog 202 #[pv p, .int .i64 n] w fun e w' => e = .returned (.bool false) ∧ Below w.heap.size w w' :=
  fun w => (fits_any p n w).mono fun _ _ ⟨he, hb⟩ => ⟨by rw [he, h], hb⟩
theorem sfits_yes (p : Pp) (n : Int) (h : fitB n p = true) : ∀ w, Calls Try.prog 200 #[.int .i64 n, pv p] w fun e w' => e = .returned (.bool true) ∧ Below w.heap.size w w' :=
  fun w => (sfits_any p n w).mono fun _ _ ⟨he, hb⟩ => ⟨by rw [he, h], hb⟩
theorem sfits_no (p : Pp) (n : Int) (h : fitB n p = false) : ∀ w, Calls Try.prog 200 #[.int .i64 n, pv p] w fun e w' => e = .returned (.bool false) ∧ Below w.heap.size w w' :=
  fun w => (sfits_any p n w).mono fun _ _ ⟨he, hb⟩ => ⟨by rw [he, h], hb⟩

/-- What was there when the call began, and its first box, stand. -/
theorem below_keep {B : Nat} {w0 wr w1 : World} {o : Obj} (h : Below B w0 wr) (hB : B ≤ wr.heap.size) (hb : Below (wr.alloc o).heap.size (wr.alloc o) w1) : Below B w0 w1 :=
  (h.alloc hB o).trans (hb.mono (by simp; omega))
theorem below_box {w w1 : World} {o : Obj} (h : Below (w.heap.size + 1) (w.alloc o) w1) : Below w.heap.size w w1 :=
  ((Below.refl _ w).alloc (Nat.le_refl _) o).trans (h.mono (by omega))

/-- A network as a value. -/
abbrev nv (n : Int) (A : Option Addr) (len cap : Nat) : Value := .agg #[.int .i64 n, .slice A len cap]
def GoodPost (n : Int) (ps : List Pp) (w : World) (e : Ending) (w' : World) : Prop := e = .returned (.bool (goodB n ps)) ∧ Below w.heap.size w w'

theorem good_post {n : Int} {ps : List Pp} {w w' : World} {v : Bool} (h : goodB n ps = v) (hb : Below w.heap.size w w') : GoodPost n ps w (.returned (.bool v)) w' := ⟨by rw [h], hb⟩

set_option maxHeartbeats 1000000 in
theorem valid_any (n : Int) (A : Option Addr) (cap : Nat) (ps : List Pp) (w : World) (h : PAt w A ps) (hm : ps.length ≤ maxLen) :
    Calls Try.prog 115 #[nv n A ps.length cap] w (GoodPost n ps w) := by
  unfold maxLen at hm
  have HA := Lib.hid h
  clear h
  by_cases hbad : n < 1 ∨ 8 < n ∨ 10 < ps.length
  · have hfin := Lib.hid (good_no (n := n) (ps := ps) (fun ⟨a, b, c, _⟩ => by omega))
    go_enter Try.func115, Try.ntmps115
    go_wp2
    all_goals
      go_ret
      exact good_post hfin.out ((Below.refl _ _).alloc (Nat.le_refl _) _)
  · have hn1 : 1 ≤ n := by omega
    have hn8 : n ≤ 8 := by omega
    have hl : ps.length ≤ 10 := by omega
    clear hbad
    go_enter Try.func115, Try.ntmps115
    go_wp2
    go_loopw [22] (fun i wr => ∃ k : Nat, k ≤ ps.length ∧ i = .int .i64 k ∧ Hid (OkTo n ps k) ∧ Below (w.heap.size + 1) (w.alloc (.cells #[.int .i64 n, .slice A ps.length cap] 30)) wr) (fun i _ => ps.length - (intOf i).toNat)
    case atStart => exact ⟨0, Nat.zero_le _, rfl, Lib.hid (OkTo.zero _ _), Below.refl _ _⟩
    case round =>
      obtain ⟨k, hk, rfl, hok, hb⟩ := hrel
      by_cases hlt : k < ps.length
      · obtain ⟨b, off, hA, hbl, h0, h1, h2, h3⟩ := HA.out.at_ hlt
        subst hA
        obtain ⟨hc, hf⟩ := bcell (W := w.alloc (.cells #[.int .i64 n, .slice (some ⟨b, off, none⟩) ps.length cap] 30)) (by simpa using hb)
        have hz : w.heap.size < wr.heap.size := by have := hb.size; simp at this; omega
        have hbw : b < wr.heap.size := by omega
        have hb' : b ≤ wr.heap.size := by omega
        have hz' : w.heap.size ≤ wr.heap.size := by omega
        have hG := @cell_g
        have hcl := Lib.hid (fun (o : Obj) (w1 : World) (h1 : Below (wr.alloc o).heap.size (wr.alloc o) w1) => below_keep hb hz h1)
        by_cases hfit : fitB n (pAt ps k) = true
        · have H1 := Lib.hid (fits_yes (pAt ps k) n hfit)
          have hnext := Lib.hid (fun hq => OkTo.next hok.out hlt (of_decide_eq_true hfit) hq)
          have hbad := Lib.hid (fun hq => good_no (OkTo.bad (n := n) hlt (.inr hq)))
          clear hfit
          by_cases hk0 : k = 0
          · subst hk0
            simp only [Nat.zero_mul, Nat.add_zero] at h0 h1 h2 h3
            have hok1 := Lib.hid (hnext.out (fun h => absurd h (by omega)))
            clear hbad hnext
            generalize pAt ps 0 = p at *
            go_wp2
            refine region_below (by kernel_rfl) (by kernel_rfl) ?_
            repeat (first | go_big_quiet_step ((go_at_call 202; exact met H1.out)))
            refine wpQuiet_nil ?_
            intro w1 hb1
            go_wp2
            go_roundw
            case rel => exact ⟨1, by omega, by go_num, hok1, hcl.out _ _ hb1⟩
            case measure => simp [intOf]; omega
          · obtain ⟨j, rfl⟩ : ∃ j, k = j + 1 := ⟨k - 1, by omega⟩
            obtain ⟨b', off', hA', hbl', g0, g1, g2, g3⟩ := HA.out.at_ (show j < ps.length by omega)
            simp only [Option.some.injEq, Addr.mk.injEq, and_true] at hA'
            obtain ⟨rfl, rfl⟩ := hA'
            have hj0 : (0 : Int) ≤ (j : Int) := by omega
            have hj1 : (j : Int) < (ps.length : Int) := by omega
            by_cases hq : (pAt ps j).id < (pAt ps (j + 1)).id
            · have hok1 := Lib.hid (hnext.out (fun _ => by simpa using hq))
              have hq' : ¬ (pAt ps (j + 1)).id ≤ (pAt ps j).id := by omega
              clear hbad hnext
              generalize pAt ps (j + 1) = p at *
              clear g1 g2 g3 hbl'
              generalize pAt ps j = q at *
              go_wp2
              refine region_below (by kernel_rfl) (by kernel_rfl) ?_
              repeat (first | go_big_quiet_step ((go_at_call 202; exact met H1.out)))
              refine wpQuiet_nil ?_
              intro w1 hb1
              go_wp2
              go_roundw
              case rel => exact ⟨j + 2, by omega, by go_num, hok1, hcl.out _ _ hb1⟩
              case measure => simp [intOf]; omega
            · have hfin := Lib.hid (hbad.out ⟨by omega, by simpa using (by omega : (pAt ps (j + 1)).id ≤ (pAt ps j).id)⟩)
              have hq' : (pAt ps (j + 1)).id ≤ (pAt ps j).id := by omega
              clear hbad hnext hq
              generalize pAt ps (j + 1) = p at *
              clear g1 g2 g3 hbl'
              generalize pAt ps j = q at *
              go_wp2
              refine region_below (by kernel_rfl) (by kernel_rfl) ?_
              repeat (first | go_big_quiet_step ((go_at_call 202; exact met H1.out)))
              refine wpQuiet_nil ?_
              intro w1 hb1
              go_wp2
              go_ret
              exact good_post hfin.out (below_box (hcl.out _ _ hb1))
        · rw [Bool.not_eq_true] at hfit
          have H1 := Lib.hid (fits_no (pAt ps k) n hfit)
          have hfin := Lib.hid (good_no (OkTo.bad (n := n) hlt (.inl (of_decide_eq_false hfit))))
          clear hfit
          generalize pAt ps k = p at *
          go_wp2
          refine region_below (by kernel_rfl) (by kernel_rfl) ?_
          repeat (first | go_big_quiet_step ((go_at_call 202; exact met H1.out)))
          refine wpQuiet_nil ?_
          intro w1 hb1
          go_wp2
          go_ret
          exact good_post hfin.out (below_box (hcl.out _ _ hb1))
      · have hfin := Lib.hid (good_mk (n := n) (ps := ps) ⟨hn1, hn8, hl, by have := hok.out; rwa [show k = ps.length by omega] at this⟩)
        go_wp2
        go_ret
        exact good_post hfin.out (below_box hb)
end Go.Proofs.Ytgjogjmfpbinfaa.S2

namespace Go.Proofs.Ytgjogjmfpbinfaa.S2
open Go.RowKit P2

/-- The cells of a row of pipes. -/
def pcell (ps : List Pp) (i : Nat) : Value :=
  .int .i64 (if i % 4 = 0 then (pAt ps (i / 4)).id else if i % 4 = 1 then (pAt ps (i / 4)).fr else if i % 4 = 2 then (pAt ps (i / 4)).to else (pAt ps (i / 4)).sz)
theorem pcell0 (ps : List Pp) (i : Nat) : pcell ps (i * 4) = .int .i64 (pAt ps i).id := by
  have a : i * 4 % 4 = 0 := by omega
  have b : i * 4 / 4 = i := by omega
  simp [pcell, a, b]
theorem pcell1 (ps : List Pp) (i : Nat) : pcell ps (i * 4 + 1) = .int .i64 (pAt ps i).fr := by
  have a : (i * 4 + 1) % 4 = 1 := by omega
  have b : (i * 4 + 1) / 4 = i := by omega
  simp [pcell, a, b]
theorem pcell2 (ps : List Pp) (i : Nat) : pcell ps (i * 4 + 2) = .int .i64 (pAt ps i).to := by
  have a : (i * 4 + 2) % 4 = 2 := by omega
  have b : (i * 4 + 2) / 4 = i := by omega
  simp [pcell, a, b]
theorem pcell3 (ps : List Pp) (i : Nat) : pcell ps (i * 4 + 3) = .int .i64 (pAt ps i).sz := by
  have a : (i * 4 + 3) % 4 = 3 := by omega
  have b : (i * 4 + 3) / 4 = i := by omega
  simp [pcell, a, b]

/-- A row of pipes in a block of its own. -/
def PRow (w : World) (g : Nat) (ps : List Pp) : Prop := w.rowIs g 75 (ps.length * 4) (pcell ps)
theorem PRow.at_ {w : World} {g : Nat} {ps : List Pp} (h : PRow w g ps) : PAt w (some ⟨g, 0, none⟩) ps := by
  refine .inr ⟨g, 0, rfl, h.lt, fun i hi => ?_⟩
  simp only [Nat.zero_add]
  rw [h.cell (by omega), h.cell (by omega), h.cell (by omega), h.cell (by omega), pcell0, pcell1, pcell2, pcell3]
  exact ⟨rfl, rfl, rfl, rfl⟩
theorem rowIs_below {w w' : World} {B g n : Nat} {t : TypeId} {f : Nat → Value} (h : w.rowIs g t n f) (hb : Below B w w') (hg : g < B) : w'.rowIs g t n f := h.of_block (hb.block g hg)
theorem PRow.kept {w w' : World} {B g : Nat} {ps : List Pp} (h : PRow w g ps) (hb : Below B w w') (hg : g < B) : PRow w' g ps := rowIs_below h hb hg

/-- The first k pipes are written. -/
def fill (ps : List Pp) (k : Nat) (i : Nat) : Value := if i < k * 4 then pcell ps i else .int .i64 0
theorem fill_step {w : World} {g n : Nat} {t : TypeId} {ps : List Pp} {k : Nat} (h : w.rowIs g t n (fill ps k)) :
    ((((w.setCell ⟨g, k * 4, none⟩ (.int .i64 (pAt ps k).id)).setCell ⟨g, k * 4 + 1, none⟩ (.int .i64 (pAt ps k).fr)).setCell ⟨g, k * 4 + 2, none⟩ (.int .i64 (pAt ps k).to)).setCell ⟨g, k * 4 + 3, none⟩ (.int .i64 (pAt ps k).sz)).rowIs g t n (fill ps (k + 1)) := by
  refine ((((h.set _ _).set _ _).set _ _).set _ _).congr fun i _ => ?_
  unfold fill
  by_cases h3 : i = k * 4 + 3
  · subst h3; rw [if_pos rfl, if_pos (by omega), pcell3]
  · rw [if_neg h3]
    by_cases h2 : i = k * 4 + 2
    · subst h2; rw [if_pos rfl, if_pos (by omega), pcell2]
    · rw [if_neg h2]
      by_cases h1 : i = k * 4 + 1
      · subst h1; rw [if_pos rfl, if_pos (by omega), pcell1]
      · rw [if_neg h1]
        by_cases h0 : i = k * 4
        · subst h0; rw [if_pos rfl, if_pos (by omega), pcell0]
        · rw [if_neg h0]
          by_cases hk : i < k * 4
          · rw [if_pos hk, if_pos (by omega)]
          · rw [if_neg hk, if_neg (by omega)]
theorem fill_all {w : World} {g : Nat} {t : TypeId} {ps : List Pp} {k : Nat} (h : w.rowIs g t (ps.length * 4) (fill ps k)) (hk : ps.length ≤ k) : w.rowIs g t (ps.length * 4) (pcell ps) :=
  h.congr fun i hi => by unfold fill; rw [if_pos (by omega)]

theorem infoP : (Try.prog.info? 75).map (fun i => (i.zero, i.size, i.bytes)) = some (some (.agg #[.int .i64 0, .int .i64 0, .int .i64 0, .int .i64 0]), 4, 32) := by kernel_rfl

theorem topipe_any (p : Pp) (w : World) :
    Calls Try.prog 201 #[pv p] w fun e w' => e = .returned (pv p) ∧ Below w.heap.size w w' := by
  obtain ⟨id, fr, to, sz⟩ := p
  go_enter Try.func201, Try.ntmps201
  go_wp2
  refine bodyPost_ret (v := .agg #[.int .i64 id, .int .i64 fr, .int .i64 to, .int .i64 sz]) (by simp [results, Try.results201, go_sem]) rfl ⟨rfl, ?_⟩
  exact (((Below.refl _ _).alloc (Nat.le_refl _) _).alloc (by simp) _).alloc (by simp; omega) _

theorem made_pipes (w : World) (ps : List Pp) : (w.alloc (.cells (madeCells (Value.agg #[.int .i64 0, .int .i64 0, .int .i64 0, .int .i64 0]).cells (ps.length * 4)) 75)).rowIs w.heap.size 75 (ps.length * 4) (fill ps 0) := by
  refine ⟨_, Go.Deep.blk_alloc_new _ _, size_madeCells _ _, fun i hi => ?_⟩
  have e : fill ps 0 i = .int .i64 0 := by unfold fill; rw [if_neg (by omega)]
  rw [e]
  have h4 : i % 4 < 4 := Nat.mod_lt _ (by omega)
  have hz : (Value.agg #[.int .i64 0, .int .i64 0, .int .i64 0, .int .i64 0]).cells = #[.int .i64 0, .int .i64 0, .int .i64 0, .int .i64 0] := rfl
  rw [hz]
  simp only [madeCells]
  rw [Array.getElem?_map, Array.getElem?_range, if_pos hi]
  simp only [Option.map_some]
  congr 1
  show (#[Value.int .i64 0, .int .i64 0, .int .i64 0, .int .i64 0])[i % 4]! = _
  generalize i % 4 = r at h4
  match r, h4 with
  | 0, _ => rfl
  | 1, _ => rfl
  | 2, _ => rfl
  | 3, _ => rfl

set_option maxHeartbeats 1000000 in
theorem topipes_any (A : Option Addr) (cap : Nat) (ps : List Pp) (w : World) (h : PAt w A ps) (hn : ps.length ≤ 1048576) :
    Calls Try.prog 114 #[.slice A ps.length cap] w fun e w' => (∃ g, e = .returned (.slice (some ⟨g, 0, none⟩) ps.length ps.length) ∧ w.heap.size ≤ g ∧ PRow w' g ps) ∧ Below w.heap.size w w' := by
  have HA := Lib.hid h
  clear h
  have hmk : ∃ w1 : World, (Instr.makeSlice 28 (.int .i64 (ps.length : Int)) (.int .i64 (ps.length : Int))).run Try.prog w = .ok (.slice (some ⟨w.heap.size, 0, none⟩) ps.length ps.length) w1 ∧ w1.rowIs w.heap.size 75 (ps.length * 4) (fill ps 0) ∧ Below w.heap.size w w1 := by
    obtain ⟨i0, hi, hz0, hz1, hz2⟩ := info_parts infoP
    have hr := run_make (P := Try.prog) w 28 75 i0 _ Try.underlying28 hi hz0 .i64 .i64 ps.length ps.length (by omega) (Int.le_refl _) (by rw [hz2]; omega) (by omega)
    simp only [Int.toNat_natCast] at hr
    rw [hz1] at hr
    exact ⟨_, hr, made_pipes _ _, (Below.refl _ _).alloc (Nat.le_refl _) _⟩
  obtain ⟨w1, hmk, hrow, hb1⟩ := hmk
  have HR := Lib.hid hrow
  clear hrow
  go_enter Try.func114, Try.ntmps114
  go_wp2
  clear hmk
  go_loopw [4] (fun i wr => ∃ k : Nat, k ≤ ps.length ∧ i = .int .i64 k ∧ Hid (wr.rowIs w.heap.size 75 (ps.length * 4) (fill ps k)) ∧ Below w.heap.size w wr) (fun i _ => ps.length - (intOf i).toNat)
  case atStart => exact ⟨0, Nat.zero_le _, rfl, HR, hb1⟩
  case round =>
    obtain ⟨k, hk, rfl, hrow, hb⟩ := hrel
    by_cases hlt : k < ps.length
    · obtain ⟨b, off, hA, hbl, h0, h1, h2, h3⟩ := HA.out.at_ hlt
      subst hA
      obtain ⟨hc, hf⟩ := bcell hb
      have hgl := hrow.out.lt
      have H1 := Lib.hid (fun w => topipe_any (pAt ps k) w)
      have hst := Lib.hid (fun (w1 : World) (h : w1.rowIs w.heap.size 75 (ps.length * 4) (fill ps k)) => fill_step h)
      generalize pAt ps k = p at *
      go_wp2_with (go_at_call 201; refine (H1.out _).mono ?_; rintro e w2 ⟨rfl, hb2⟩; have hrow2 := Lib.hid (rowIs_below hrow.out hb2 hgl); have hfz : ∀ o, w2.frozen? ⟨w.heap.size, o, none⟩ = false := fun o => hrow2.out.frozen o; have c0 := hrow2.out.cell (i := k * 4) (by omega); have c1 := hrow2.out.cell (i := k * 4 + 1) (by omega); have c2 := hrow2.out.cell (i := k * 4 + 2) (by omega); have c3 := hrow2.out.cell (i := k * 4 + 3) (by omega))
      have hst' := hst.out _ hrow2.out
      go_roundw
      case rel => exact ⟨k + 1, by omega, by go_num, Lib.hid hst', ((((hb.trans (hb2.mono (by omega))).setCell (p := ⟨w.heap.size, k * 4, none⟩) (Nat.le_refl _) _).setCell (p := ⟨w.heap.size, k * 4 + 1, none⟩) (Nat.le_refl _) _).setCell (p := ⟨w.heap.size, k * 4 + 2, none⟩) (Nat.le_refl _) _).setCell (p := ⟨w.heap.size, k * 4 + 3, none⟩) (Nat.le_refl _) _⟩
      case measure => simp [intOf]; omega
    · have hfin := Lib.hid (fill_all hrow.out (by omega))
      go_wp2
      go_ret
      exact ⟨⟨_, rfl, Nat.le_refl _, hfin.out⟩, hb⟩

/-- A result that is a network's copy. -/
def ToPost (n : Int) (ps : List Pp) (w : World) (e : Ending) (w' : World) : Prop := (∃ g, e = .returned (nv n (some ⟨g, 0, none⟩) ps.length ps.length) ∧ w.heap.size ≤ g ∧ PRow w' g ps) ∧ Below w.heap.size w w'

set_option maxHeartbeats 1000000 in
theorem tonet_any (n : Int) (A : Option Addr) (cap : Nat) (ps : List Pp) (w : World) (h : PAt w A ps) (hn : ps.length ≤ 1048576) :
    Calls Try.prog 21 #[nv n A ps.length cap] w (ToPost n ps w) := by
  have H := Lib.hid (fun w' (hb : Below w.heap.size w w') => topipes_any A cap ps w' (h.kept hb (Nat.le_refl _)) hn)
  clear h
  go_enter Try.func21, Try.ntmps21
  go_wp2_with (go_at_call 114; refine (H.out _ ?_).mono ?_; (exact ((((Below.refl _ _).alloc (Nat.le_refl _) _).alloc (by simp) _).alloc (by simp; omega) _)); rintro e w1 ⟨⟨g, rfl, hg, hrow⟩, hb1⟩; obtain ⟨hc, hf⟩ := bcell hb1)
  have hg' : w.heap.size + 3 ≤ g := by simp at hg; omega
  refine bodyPost_ret (v := nv n (some ⟨g, 0, none⟩) ps.length ps.length) (by simp [results, Try.results21, go_sem, hc]) rfl ⟨⟨g, rfl, by omega, ?_⟩, ?_⟩
  · exact ((hrow.setOther (by show g ≠ w.heap.size + 1 + 1; omega) _).setOther (by show g ≠ w.heap.size + 1; omega) _).setOther (by show g ≠ w.heap.size + 1; omega) _
  · exact ((((((Below.refl _ _).alloc (Nat.le_refl _) _).alloc (by simp) _).alloc (by simp; omega) _).trans (hb1.mono (by simp; omega))).setCell (by show w.heap.size ≤ w.heap.size + 1 + 1; omega) _ |>.setCell (by show w.heap.size ≤ w.heap.size + 1; omega) _).setCell (by show w.heap.size ≤ w.heap.size + 1; omega) _

theorem szpipes_any (A : Option Addr) (len cap : Nat) (w : World) (hm : len ≤ maxLen) :
    Calls Try.prog 111 #[.slice A len cap, .int .i64 1048576] w fun e w' => (∃ r : Int, e = .returned (.int .i64 r) ∧ (r < 0 ∨ (0 ≤ r ∧ len ≤ 1048576))) ∧ w' = w := by
  unfold maxLen at hm
  by_cases h0 : len ≤ 1048576
  · go_enter Try.func111, Try.ntmps111
    go_wp2
    go_ret
    exact ⟨⟨_, rfl, .inr ⟨by omega, h0⟩⟩, rfl⟩
  · go_enter Try.func111, Try.ntmps111
    go_wp2
    go_ret
    exact ⟨⟨_, rfl, .inl (by omega)⟩, rfl⟩
theorem sznet_any (n : Int) (A : Option Addr) (len cap : Nat) (w : World) (hm : len ≤ maxLen) :
    Calls Try.prog 19 #[nv n A len cap, .int .i64 1048576] w fun e w' => (∃ r : Int, e = .returned (.int .i64 r) ∧ (r < 0 ∨ (0 ≤ r ∧ len ≤ 1048576))) ∧ Below w.heap.size w w' := by
  have H := Lib.hid (fun w => szpipes_any A len cap w hm)
  clear hm
  go_enter Try.func19, Try.ntmps19
  go_wp2_with (go_at_call 111; refine (H.out _).mono ?_; rintro e w1 ⟨⟨r, rfl, hr⟩, rfl⟩)
  all_goals
    go_ret
    first
      | exact ⟨⟨_, rfl, hr⟩, (Below.refl _ _).alloc (Nat.le_refl _) _⟩
      | exact ⟨⟨_, rfl, .inl (by omega)⟩, (Below.refl _ _).alloc (Nat.le_refl _) _⟩
end Go.Proofs.Ytgjogjmfpbinfaa.S2

namespace Go.Proofs.Ytgjogjmfpbinfaa.S2
open Go.RowKit P2

theorem eqpipe_same (p : Pp) (w : World) :
    Calls Try.prog 203 #[pv p, pv p] w fun e w' => e = .returned (.bool true) ∧ Below w.heap.size w w' := by
  obtain ⟨id, fr, to, sz⟩ := p
  go_enter Try.func203, Try.ntmps203
  go_wp2
  go_ret
  exact ⟨rfl, ((Below.refl _ _).alloc (Nat.le_refl _) _).alloc (by simp) _⟩

set_option maxHeartbeats 1000000 in
theorem eqpipes_same (A A2 : Option Addr) (cap cap2 : Nat) (ps : List Pp) (w : World) (h : PAt w A ps) (h2 : PAt w A2 ps) (hn : ps.length ≤ 1048576) :
    Calls Try.prog 117 #[.slice A ps.length cap, .slice A2 ps.length cap2] w fun e w' => e = .returned (.bool true) ∧ Below w.heap.size w w' := by
  have HA := Lib.hid h
  have HA2 := Lib.hid h2
  clear h h2
  go_enter Try.func117, Try.ntmps117
  go_wp2
  go_loopw [5] (fun i wr => ∃ k : Nat, k ≤ ps.length ∧ i = .int .i64 k ∧ Below w.heap.size w wr) (fun i _ => ps.length - (intOf i).toNat)
  case atStart => exact ⟨0, Nat.zero_le _, rfl, Below.refl _ _⟩
  case round =>
    obtain ⟨k, hk, rfl, hb⟩ := hrel
    by_cases hlt : k < ps.length
    · obtain ⟨b, off, hA, hbl, h0, h1, h2, h3⟩ := HA.out.at_ hlt
      obtain ⟨b2, off2, hA2, hbl2, g0, g1, g2, g3⟩ := HA2.out.at_ hlt
      subst hA hA2
      obtain ⟨hc, hf⟩ := bcell hb
      have hz := hb.size
      have hbw : b < wr.heap.size := by omega
      have hbw2 : b2 < wr.heap.size := by omega
      have hk0i : (0 : Int) ≤ (k : Int) := by omega
      have hk1i : (k : Int) < (ps.length : Int) := by omega
      have H1 := Lib.hid (fun w => eqpipe_same (pAt ps k) w)
      have hG := @cell_g
      generalize pAt ps k = p at *
      go_wp2
      refine region_below (by kernel_rfl) (by kernel_rfl) ?_
      repeat (first | go_big_quiet_step ((go_at_call 203; exact met H1.out)))
      refine wpQuiet_nil ?_
      intro w1 hb1
      go_wp2
      go_roundw
      case rel => exact ⟨k + 1, by omega, by go_num, hb.trans (hb1.mono hz)⟩
      case measure => simp [intOf]; omega
    · go_wp2
      go_ret
      exact ⟨rfl, hb⟩

theorem eqnet_same (n : Int) (A A2 : Option Addr) (cap cap2 : Nat) (ps : List Pp) (w : World) (h : PAt w A ps) (h2 : PAt w A2 ps) (hn : ps.length ≤ 1048576) :
    Calls Try.prog 23 #[nv n A ps.length cap, nv n A2 ps.length cap2] w fun e w' => e = .returned (.bool true) ∧ Below w.heap.size w w' := by
  have H := Lib.hid (fun w' (hb : Below w.heap.size w w') => eqpipes_same A A2 cap cap2 ps w' (h.kept hb (Nat.le_refl _)) (h2.kept hb (Nat.le_refl _)) hn)
  clear h h2
  go_enter Try.func23, Try.ntmps23
  go_wp2_with (go_at_call 117; refine (H.out _ ?_).mono ?_; (exact ((Below.refl _ _).alloc (Nat.le_refl _) _).alloc (by simp) _); rintro e w1 ⟨rfl, hb1⟩)
  go_ret
  exact ⟨rfl, (((Below.refl _ _).alloc (Nat.le_refl _) _).alloc (by simp) _).trans (hb1.mono (by simp; omega))⟩
end Go.Proofs.Ytgjogjmfpbinfaa.S2

namespace Go.Proofs.Ytgjogjmfpbinfaa.S2
open Go.RowKit P2

theorem in_eq (x a b : Int) (v : Bool) (h : decide (a ≤ x ∧ x ≤ b) = v) (w : World) :
    Calls Try.prog 122 #[.int .i64 x, .int .i64 a, .int .i64 b] w fun e w' => e = .returned (.bool v) ∧ w' = w := by
  rw [← h]; exact in_any x a b w

set_option maxHeartbeats 2000000 in
theorem sgood_any (n : Int) (A : Option Addr) (cap : Nat) (ps : List Pp) (w : World) (h : PAt w A ps) (hm : ps.length ≤ maxLen) :
    Calls Try.prog 112 #[nv n A ps.length cap] w (GoodPost n ps w) := by
  unfold maxLen at hm
  have HA := Lib.hid h
  clear h
  have hin : ∃ v, decide (1 ≤ n ∧ n ≤ 8) = v := ⟨_, rfl⟩
  obtain ⟨vn, hvn⟩ := hin
  have HI := Lib.hid (in_eq n 1 8 vn hvn)
  have HV := Lib.hid hvn
  clear hvn
  go_enter Try.func112, Try.ntmps112
  go_wp2
  go_loopw [3] (fun i wr => ∃ k : Nat, k ≤ ps.length ∧ k ≤ 11 ∧ i = .int .i64 k ∧ Hid (OkTo n ps k) ∧ Below (w.heap.size + 1) (w.alloc (.cells #[.int .i64 n, .slice A ps.length cap] 30)) wr) (fun i _ => ps.length - (intOf i).toNat)
  case atStart => exact ⟨0, Nat.zero_le _, by omega, rfl, Lib.hid (OkTo.zero _ _), Below.refl _ _⟩
  case round =>
    obtain ⟨k, hk, hk11, rfl, hok, hb⟩ := hrel
    have hz : w.heap.size < wr.heap.size := by have := hb.size; simp at this; omega
    have hz' : w.heap.size ≤ wr.heap.size := by omega
    by_cases hlt : k < ps.length ∧ k ≤ 10
    · obtain ⟨hlt, hk10⟩ := hlt
      obtain ⟨b, off, hA, hbl, h0, h1, h2, h3⟩ := HA.out.at_ hlt
      subst hA
      obtain ⟨hc, hf⟩ := bcell (W := w.alloc (.cells #[.int .i64 n, .slice (some ⟨b, off, none⟩) ps.length cap] 30)) (by simpa using hb)
      have hbw : b < wr.heap.size := by omega
      have hb' : b ≤ wr.heap.size := by omega
      have hG := @cell_g
      have hcl := Lib.hid (fun (w1 : World) (h1 : Below wr.heap.size wr w1) => hb.trans (h1.mono (by omega)))
      have hk0i : (0 : Int) ≤ (k : Int) := by omega
      have hk1i : (k : Int) < (ps.length : Int) := by omega
      by_cases hfit : fitB n (pAt ps k) = true
      · have H1 := Lib.hid (sfits_yes (pAt ps k) n hfit)
        have hnext := Lib.hid (fun hq => OkTo.next hok.out hlt (of_decide_eq_true hfit) hq)
        have hbad := Lib.hid (fun hq => good_no (OkTo.bad (n := n) hlt (.inr hq)))
        clear hfit
        by_cases hk0 : k = 0
        · subst hk0
          simp only [Nat.zero_mul, Nat.add_zero] at h0 h1 h2 h3
          have hok1 := Lib.hid (hnext.out (fun h => absurd h (by omega)))
          clear hbad hnext
          generalize pAt ps 0 = p at *
          go_wp2
          refine region_below (by kernel_rfl) (by kernel_rfl) ?_
          repeat (first | go_big_quiet_step ((go_at_call 200; exact met H1.out)))
          refine wpQuiet_nil ?_
          intro w1 hb1
          go_wp2
          go_roundw
          case rel => exact ⟨1, by omega, by omega, by go_num, hok1, hcl.out _ hb1⟩
          case measure => simp [intOf]; omega
        · obtain ⟨j, rfl⟩ : ∃ j, k = j + 1 := ⟨k - 1, by omega⟩
          obtain ⟨b', off', hA', hbl', g0, g1, g2, g3⟩ := HA.out.at_ (show j < ps.length by omega)
          simp only [Option.some.injEq, Addr.mk.injEq, and_true] at hA'
          obtain ⟨rfl, rfl⟩ := hA'
          have hj0 : (0 : Int) ≤ (j : Int) := by omega
          have hj1 : (j : Int) < (ps.length : Int) := by omega
          by_cases hq : (pAt ps j).id < (pAt ps (j + 1)).id
          · have hok1 := Lib.hid (hnext.out (fun _ => by simpa using hq))
            have hq' : ¬ (pAt ps (j + 1)).id ≤ (pAt ps j).id := by omega
            clear hbad hnext
            generalize pAt ps (j + 1) = p at *
            clear g1 g2 g3 hbl'
            generalize pAt ps j = q at *
            go_wp2
            refine region_below (by kernel_rfl) (by kernel_rfl) ?_
            repeat (first | go_big_quiet_step ((go_at_call 200; exact met H1.out)))
            refine wpQuiet_nil ?_
            intro w1 hb1
            go_wp2
            go_roundw
            case rel => exact ⟨j + 2, by omega, by omega, by go_num, hok1, hcl.out _ hb1⟩
            case measure => simp [intOf]; omega
          · have hfin := Lib.hid (hbad.out ⟨by omega, by simpa using (by omega : (pAt ps (j + 1)).id ≤ (pAt ps j).id)⟩)
            have hq' : (pAt ps (j + 1)).id ≤ (pAt ps j).id := by omega
            clear hbad hnext hq
            generalize pAt ps (j + 1) = p at *
            clear g1 g2 g3 hbl'
            generalize pAt ps j = q at *
            go_wp2
            refine region_below (by kernel_rfl) (by kernel_rfl) ?_
            repeat (first | go_big_quiet_step ((go_at_call 200; exact met H1.out)))
            refine wpQuiet_nil ?_
            intro w1 hb1
            go_wp2
            go_ret
            exact good_post hfin.out (below_box (hcl.out _ hb1))
      · rw [Bool.not_eq_true] at hfit
        have H1 := Lib.hid (sfits_no (pAt ps k) n hfit)
        have hfin := Lib.hid (good_no (OkTo.bad (n := n) hlt (.inl (of_decide_eq_false hfit))))
        clear hfit
        generalize pAt ps k = p at *
        go_wp2
        refine region_below (by kernel_rfl) (by kernel_rfl) ?_
        repeat (first | go_big_quiet_step ((go_at_call 200; exact met H1.out)))
        refine wpQuiet_nil ?_
        intro w1 hb1
        go_wp2
        go_ret
        exact good_post hfin.out (below_box (hcl.out _ hb1))
    · obtain ⟨hc, hf⟩ := bcell (W := w.alloc (.cells #[.int .i64 n, .slice A ps.length cap] 30)) (by simpa using hb)
      have hlen : ∀ v, decide (ps.length ≤ 10) = v → (vn && v) = goodB n ps := by
        intro v hv
        have h1 := HV.out
        by_cases h8 : 1 ≤ n ∧ n ≤ 8
        · by_cases h10 : ps.length ≤ 10
          · rw [good_mk (n := n) (ps := ps) ⟨h8.1, h8.2, h10, by have := hok.out; rwa [show k = ps.length by omega] at this⟩, ← hv, ← h1]; simp [h8, h10]
          · rw [good_no (n := n) (ps := ps) (fun h => h10 h.2.2.1), ← hv]; simp [h10]
        · rw [good_no (n := n) (ps := ps) (fun h => h8 ⟨h.1, h.2.1⟩), ← h1]; simp [h8]
      have HL := Lib.hid hlen
      clear hlen
      by_cases h10 : ps.length ≤ 10
      · have hfin := Lib.hid (HL.out true (by simpa using h10))
        have hkl : ¬ k < ps.length := by omega
        clear hlt
        cases vn
        · go_wp2_with (go_at_call 122; refine (HI.out _).mono ?_; rintro e w' ⟨rfl, rfl⟩)
          go_ret
          exact good_post hfin.out.symm (below_box hb)
        · go_wp2_with (go_at_call 122; refine (HI.out _).mono ?_; rintro e w' ⟨rfl, rfl⟩)
          go_ret
          exact good_post (hfin.out.symm.trans (by simp; omega)) (below_box hb)
      · have hfin := Lib.hid (HL.out false (by simpa using h10))
        by_cases hkl : k < ps.length
        · have hk10 : ¬ k ≤ 10 := fun h => hlt ⟨hkl, h⟩
          clear hlt
          cases vn
          · go_wp2_with (go_at_call 122; refine (HI.out _).mono ?_; rintro e w' ⟨rfl, rfl⟩)
            go_ret
            exact good_post hfin.out.symm (below_box hb)
          · go_wp2_with (go_at_call 122; refine (HI.out _).mono ?_; rintro e w' ⟨rfl, rfl⟩)
            go_ret
            exact good_post (hfin.out.symm.trans (by simp; omega)) (below_box hb)
        · clear hlt
          cases vn
          · go_wp2_with (go_at_call 122; refine (HI.out _).mono ?_; rintro e w' ⟨rfl, rfl⟩)
            go_ret
            exact good_post hfin.out.symm (below_box hb)
          · go_wp2_with (go_at_call 122; refine (HI.out _).mono ?_; rintro e w' ⟨rfl, rfl⟩)
            go_ret
            exact good_post (hfin.out.symm.trans (by simp; omega)) (below_box hb)

end Go.Proofs.Ytgjogjmfpbinfaa.S2

namespace Go.Proofs.Ytgjogjmfpbinfaa.S2
open Go.RowKit P2

theorem valid_v {n : Int} {ps : List Pp} {v : Bool} (hv : goodB n ps = v) (A : Option Addr) (cap : Nat) (w : World) (h : PAt w A ps) (hm : ps.length ≤ maxLen) :
    Calls Try.prog 115 #[nv n A ps.length cap] w fun e w' => e = .returned (.bool v) ∧ Below w.heap.size w w' := by
  rw [← hv]; exact valid_any n A cap ps w h hm

theorem box2 {w w' : World} {x y : Value} {t : TypeId} (h : Below (w.heap.size + 1) (w.alloc (.cells #[x, y] t)) w') : w'.cell? ⟨w.heap.size, 0, none⟩ = some x ∧ w'.cell? ⟨w.heap.size, 1, none⟩ = some y := by
  have h0 := h.cell (p := ⟨w.heap.size, 0, none⟩) (by show w.heap.size < w.heap.size + 1; omega)
  have h1 := h.cell (p := ⟨w.heap.size, 1, none⟩) (by show w.heap.size < w.heap.size + 1; omega)
  rw [h0, h1, World.cell?_alloc_at _ _ _ _ rfl, World.cell?_alloc_at _ _ _ _ rfl]
  exact ⟨rfl, rfl⟩
theorem on_call {w a b : World} {o : Obj} (h : Below (w.heap.size + 1) (w.alloc o) a) (hb : Below a.heap.size a b) : Below (w.heap.size + 1) (w.alloc o) b :=
  h.trans (hb.mono (by have := h.size; simpa using this))
theorem box_lt {w a : World} {o : Obj} (h : Below (w.heap.size + 1) (w.alloc o) a) : w.heap.size < a.heap.size := by have := h.size; simp at this; omega

end Go.Proofs.Ytgjogjmfpbinfaa.S2

namespace Go.Proofs.Ytgjogjmfpbinfaa.S2
open Go.RowKit P2

theorem own_on {A B : World} {base : Nat} {e : TypeId} {size : Nat} {v : Value} {n : Nat} {xs : List Value} (h : A.ownsRow base e size v n xs) (hb : Below A.heap.size A B) : B.ownsRow base e size v n xs :=
  h.kept ⟨hb.os, hb.tape, hb.output, hb.size, fun k hk _ => hb.block k hk⟩ (Classical.or_iff_not_imp_left.2 fun hn => hn)

def pcs4 (p : Pp) : List Value := [.int .i64 p.id, .int .i64 p.fr, .int .i64 p.to, .int .i64 p.sz]
def pcs (ps : List Pp) : List Value := ps.flatMap pcs4
theorem pcs_snoc (ps : List Pp) (p : Pp) : pcs (ps ++ [p]) = pcs ps ++ pcs4 p := by simp [pcs, List.flatMap_append]
theorem pcs_len (ps : List Pp) : (pcs ps).length = ps.length * 4 := by
  induction ps with
  | nil => rfl
  | cons p ps ih =>
    have e : pcs (p :: ps) = pcs4 p ++ pcs ps := rfl
    rw [e, List.length_append, ih]; simp [pcs4]; omega
theorem pcs_get (ps : List Pp) : ∀ i, i < ps.length → ∀ j, j < 4 → (pcs ps)[i * 4 + j]? = (pcs4 (pAt ps i))[j]? := by
  induction ps with
  | nil => intro i h; simp at h
  | cons p ps ih =>
    intro i hi j hj
    have e : pcs (p :: ps) = pcs4 p ++ pcs ps := rfl
    have l4 : (pcs4 p).length = 4 := rfl
    match i with
    | 0 =>
      have e2 : pAt (p :: ps) 0 = p := by simp [pAt, List.getD]
      rw [e, e2, Nat.zero_mul, Nat.zero_add, List.getElem?_append_left (by omega)]
    | i + 1 =>
      have e2 : pAt (p :: ps) (i + 1) = pAt ps i := by simp [pAt, List.getD]
      rw [e, e2, List.getElem?_append_right (by omega), ← ih i (by simpa using hi) j hj, l4]
      congr 1; omega

/-- Read as pipes. -/
theorem own_pat {w : World} {B cap : Nat} {A : Option Addr} {ps : List Pp} (h : w.ownsRow B 75 4 (.slice A ps.length cap) ps.length (pcs ps)) : PAt w A ps := by
  rcases Nat.eq_zero_or_pos ps.length with h0 | h0
  · exact .inl (List.length_eq_zero_iff.1 h0)
  · obtain ⟨g, cap', hv, _, hlt⟩ := h.form h0
    injection hv with hA
    subst hA
    refine .inr ⟨g, 0, rfl, hlt, fun i hi => ?_⟩
    simp only [Nat.zero_add]
    have hc := fun j (hj : j < 4) => (h.cellAt (i * 4 + j) (by omega)).trans (pcs_get ps i hi j hj)
    exact ⟨hc 0 (by omega), hc 1 (by omega), hc 2 (by omega), hc 3 (by omega)⟩

/-- Block G holds N slices, each with a row of its own from block B on, no two in one block. -/
structure Bk (w : World) (B G N : Nat) (f : Nat → List Pp) (vs : Nat → Value) : Prop where
  row : w.rowIs G 28 N vs
  own : ∀ i, i < N → w.ownsRow B 75 4 (vs i) (f i).length (pcs (f i))
  apart : ∀ i j b, i < N → j < N → i ≠ j → (vs i).ownBlock = some b → (vs j).ownBlock ≠ some b
  lt : G < B

def upd {α : Type} (f : Nat → α) (i : Nat) (x : α) : Nat → α := fun j => if j = i then x else f j

theorem Bk.congr {w : World} {B G N : Nat} {f g : Nat → List Pp} {vs : Nat → Value} (h : Bk w B G N f vs) (e : ∀ i, i < N → f i = g i) : Bk w B G N g vs :=
  ⟨h.row, fun i hi => by rw [← e i hi]; exact h.own i hi, h.apart, h.lt⟩
theorem Bk.kept {w w' : World} {B G N : Nat} {f : Nat → List Pp} {vs : Nat → Value} (h : Bk w B G N f vs) (hb : Below w.heap.size w w') : Bk w' B G N f vs :=
  ⟨h.row.of_block (hb.block G h.row.lt), fun i hi => own_on (h.own i hi) hb, h.apart, h.lt⟩

theorem Bk.push {w W1 w1 : World} {B G N i g H cap : Nat} {f : Nat → List Pp} {vs : Nat → Value} {p : Pp} (h : Bk w B G N f vs) (hi : i < N) (hb : Below w.heap.size w W1)
    (hg : W1.grownBy w1 (vs i).ownBlock) (ho : w1.ownsRow B 75 4 (.slice (some ⟨g, 0, none⟩) ((f i).length + 1) cap) ((f i).length + 1) (pcs (f i) ++ pcs4 p))
    (hat : (vs i).ownBlock = some g ∨ g = H) (hH : w.heap.size ≤ H) :
    Bk (w1.setCell ⟨G, i, none⟩ (.slice (some ⟨g, 0, none⟩) ((f i).length + 1) cap)) B G N (upd f i (f i ++ [p])) (upd vs i (.slice (some ⟨g, 0, none⟩) ((f i).length + 1) cap)) := by
  have hGB := h.lt
  have hGne : some G ≠ (vs i).ownBlock := fun e => by have := ((h.own i hi).lt G e.symm).1; omega
  refine ⟨?_, fun j hj => ?_, fun j k b hj hk hjk hjb => ?_, h.lt⟩
  · have h1 := h.row.of_block (hb.block G h.row.lt)
    exact (h1.of_block (hg.block G h1.lt hGne)).set i _
  · refine ownsRow_setCell_below ?_ hGB _
    unfold upd
    by_cases e : j = i
    · rw [if_pos e, if_pos e]
      rw [pcs_snoc]
      simpa using ho
    · rw [if_neg e, if_neg e]
      refine (own_on (h.own j hj) hb).kept hg ?_
      match hv : (vs j).ownBlock with
      | none => exact .inl rfl
      | some b => exact .inr fun e2 => h.apart j i b hj hi e hv e2.symm
  · unfold upd at hjb ⊢
    by_cases e : j = i
    · rw [if_pos e] at hjb
      rw [if_neg (by omega)]
      have hgb : g = b := by simpa [Value.ownBlock] using hjb
      subst hgb
      rcases hat with hat | hat
      · exact h.apart i k g hi hk (by omega) hat
      · intro e2
        have := ((h.own k hk).lt g e2).2
        omega
    · rw [if_neg e] at hjb
      by_cases e3 : k = i
      · rw [if_pos e3]
        intro e2
        have hgb : g = b := by simpa [Value.ownBlock] using e2
        subst hgb
        rcases hat with hat | hat
        · exact h.apart j i g hj hi e hjb hat
        · have := ((h.own j hj).lt g hjb).2
          omega
      · rw [if_neg e3]
        exact h.apart j k b hj hk hjk hjb

theorem Bk.push_ne {w : World} {B G N i g H l cap x : Nat} {f : Nat → List Pp} {vs : Nat → Value} (h : Bk w B G N f vs) (hi : i < N) (hat : (vs i).ownBlock = some g ∨ g = H) (hx : w.heap.size ≤ x) (hH : H ≠ x) :
    ∀ j, j < N → (upd vs i (.slice (some ⟨g, 0, none⟩) l cap) j).ownBlock ≠ some x := by
  intro j hj e
  unfold upd at e
  by_cases hji : j = i
  · rw [if_pos hji] at e
    have hgx : g = x := by simpa [Value.ownBlock] using e
    rcases hat with hat | hat
    · have := ((h.own i hi).lt g hat).2; omega
    · omega
  · rw [if_neg hji] at e
    have := ((h.own j hj).lt x e).2
    omega

/-- What stands in the bucket of node i. -/
def touchB (i : Nat) (p : Pp) : Bool := decide (p.fr = (i : Int) ∨ p.to = (i : Int))
def rowTo (ps : List Pp) (k i : Nat) : List Pp := (ps.take k).filter (touchB i)
def rowOf (ps : List Pp) (i : Nat) : List Pp := ps.filter (touchB i)
theorem rowTo_len (ps : List Pp) (k i : Nat) : (rowTo ps k i).length ≤ k := Nat.le_trans (List.length_filter_le _ _) (by simp; omega)
theorem rowTo_all (ps : List Pp) (k i : Nat) (h : ps.length ≤ k) : rowTo ps k i = rowOf ps i := by unfold rowTo rowOf; rw [List.take_of_length_le h]
theorem rowTo_zero (ps : List Pp) (i : Nat) : rowTo ps 0 i = [] := by simp [rowTo]
theorem rowTo_step (ps : List Pp) (k a c : Nat) (hk : k < ps.length) (ha : (pAt ps k).fr = (a : Int)) (hc : (pAt ps k).to = (c : Int)) (hne : a ≠ c) (i : Nat) :
    upd (upd (rowTo ps k) a (rowTo ps k a ++ [pAt ps k])) c (upd (rowTo ps k) a (rowTo ps k a ++ [pAt ps k]) c ++ [pAt ps k]) i = rowTo ps (k + 1) i := by
  have e : rowTo ps (k + 1) i = rowTo ps k i ++ if touchB i (pAt ps k) then [pAt ps k] else [] := by
    unfold rowTo
    have h1 : ps.take (k + 1) = ps.take k ++ [pAt ps k] := by
      rw [List.take_succ_eq_append_getElem hk]; simp [pAt, List.getD, hk]
    rw [h1, List.filter_append]
    congr 1
    by_cases ht : touchB i (pAt ps k) <;> simp [ht]
  rw [e]
  unfold upd touchB
  rw [ha, hc]
  by_cases h1 : i = c
  · subst h1
    rw [if_pos rfl, if_neg (by omega)]
    simp
  · rw [if_neg h1]
    by_cases h2 : i = a
    · subst h2
      simp
    · rw [if_neg h2]
      have : ¬ ((a : Int) = (i : Int) ∨ (c : Int) = (i : Int)) := by omega
      simp [this]
end Go.Proofs.Ytgjogjmfpbinfaa.S2

namespace Go.Proofs.Ytgjogjmfpbinfaa.S2
open Go.RowKit P2

abbrev iv (x : Int) : Value := .int .i64 x
/-- The numbers l lie there. -/
def IAt (w : World) (A : Option Addr) (l : List Int) : Prop :=
  l = [] ∨ ∃ b off, A = some ⟨b, off, none⟩ ∧ b < w.heap.size ∧ ∀ i, i < l.length → w.cell? ⟨b, off + i, none⟩ = some (iv (l.getD i 0))
theorem IAt.kept {w w' : World} {A : Option Addr} {l : List Int} {B : Nat} (h : IAt w A l) (hb : Below B w w') (hB : w.heap.size ≤ B) : IAt w' A l := by
  rcases h with h | ⟨b, off, hA, hlt, h⟩
  · exact .inl h
  · exact .inr ⟨b, off, hA, Nat.lt_of_lt_of_le hlt hb.size, fun i hi => (hb.cell (p := ⟨b, off + i, none⟩) (by show b < B; omega)).trans (h i hi)⟩
theorem IAt.at_ {w : World} {A : Option Addr} {l : List Int} (h : IAt w A l) {i : Nat} (hi : i < l.length) : ∃ b off, A = some ⟨b, off, none⟩ ∧ b < w.heap.size ∧ w.cell? ⟨b, off + i, none⟩ = some (iv (l.getD i 0)) := by
  rcases h with h | ⟨b, off, hA, hlt, h⟩
  · subst h; simp at hi
  · exact ⟨b, off, hA, hlt, h i hi⟩
/-- A row of the call's own. -/
def IOwn (w : World) (B : Nat) (v : Value) (l : List Int) : Prop := w.ownsRow B 3 1 v l.length (l.map iv)
theorem IOwn.iat {w : World} {B cap : Nat} {A : Option Addr} {l : List Int} (h : IOwn w B (.slice A l.length cap) l) : IAt w A l := by
  unfold IOwn at h
  rcases Nat.eq_zero_or_pos l.length with h0 | h0
  · exact .inl (List.length_eq_zero_iff.1 h0)
  · obtain ⟨g, cap', hv, _, hlt⟩ := h.form h0
    injection hv with hA
    subst hA
    refine .inr ⟨g, 0, rfl, hlt, fun i hi => ?_⟩
    rw [Nat.zero_add, h.cellAt i (by omega)]
    simp [List.getD, hi]
theorem IOwn.on {A B : World} {base : Nat} {v : Value} {l : List Int} (h : IOwn A base v l) (hb : Below A.heap.size A B) : IOwn B base v l := own_on h hb

theorem IOwn.push {w : World} {B : Nat} {v : Value} {l : List Int} {x : Int} (h : w.ownsRow B 3 1 v (l.length + 1) (l.map iv ++ [iv x])) : IOwn w B v (l ++ [x]) := by
  unfold IOwn
  rw [List.length_append, List.map_append]
  exact h

theorem own_lower {w : World} {B B' : Nat} {v : Value} {l : List Int} (h : IOwn w B v l) (hB : B' ≤ B := by omega) : IOwn w B' v l := by
  refine ⟨h.1, ?_⟩
  rcases h.2 with h2 | ⟨g, cap, cur, hv, hb, rest⟩
  · exact .inl h2
  · exact .inr ⟨g, cap, cur, hv, by omega, rest⟩

theorem infoI : (Try.prog.info? 3).map (fun i => (i.zero, i.size, i.bytes)) = some (some (.int .i64 0), 1, 8) := by kernel_rfl

/-- A fresh slice of numbers beside a bool. -/
def GivesI (w : World) (l : List Int) (ok : Bool) (e : Ending) (w' : World) : Prop :=
  ∃ g cap, e = .returned (.tuple #[.slice (some ⟨g, 0, none⟩) l.length cap, .bool ok]) ∧ w.heap.size ≤ g ∧ IOwn w' w.heap.size (.slice (some ⟨g, 0, none⟩) l.length cap) l ∧ Below w.heap.size w w'
/-- A slice of numbers beside a bool, made by the call, wherever it starts. -/
def GivesA (w : World) (l : List Int) (ok : Bool) (e : Ending) (w' : World) : Prop :=
  ∃ g o cap, e = .returned (.tuple #[.slice (some ⟨g, o, none⟩) l.length cap, .bool ok]) ∧ w.heap.size ≤ g ∧ IAt w' (some ⟨g, o, none⟩) l ∧ Below w.heap.size w w' ∧ g < w'.heap.size
theorem own_empty (w : World) (B : Nat) (hB : B ≤ w.heap.size) : IOwn (w.alloc (.cells #[] 3)) B (.slice (some ⟨w.heap.size, 0, none⟩) 0 0) [] :=
  ⟨rfl, .inr ⟨w.heap.size, 0, #[], rfl, hB, by simpa using (MapKept.heap_alloc w (.cells #[] 3)).1, Nat.le_refl _, Nat.zero_le _, rfl, rfl⟩⟩
theorem GivesI.any {w : World} {l : List Int} {ok : Bool} {e : Ending} {w' : World} (h : GivesI w l ok e w') : GivesA w l ok e w' := by
  obtain ⟨g, cap, he, hg, ho, hb⟩ := h
  exact ⟨g, 0, cap, he, hg, ho.iat, hb, (World.ownsRow.lt ho g rfl).2⟩
theorem own_slice {w : World} {B : Nat} {v : Value} {l : List Int} (h : IOwn w B v l) (hne : v ≠ .slice none 0 0) : ∃ g cap, v = .slice (some ⟨g, 0, none⟩) l.length cap ∧ B ≤ g := by
  rcases h.2 with ⟨hv, _⟩ | ⟨g, cap, cur, hv, hb, _⟩
  · exact absurd hv hne
  · exact ⟨g, cap, hv, hb⟩
theorem cell_new2 (w : World) (P : Obj) (x : Value) (t : TypeId) : ∀ j u, [x][j]? = some u → ((w.alloc P).alloc (.cells #[x] t)).cell? ((⟨w.heap.size + 1, 0, none⟩ : Addr).add j) = some u := by
  have h := cell_one_new (w.alloc P) x t
  rwa [show (w.alloc P).heap.size = w.heap.size + 1 by simp] at h

set_option maxHeartbeats 1000000 in
theorem eqints_same (A A2 : Option Addr) (cap cap2 : Nat) (l : List Int) (w : World) (h : IAt w A l) (h2 : IAt w A2 l) (hn : l.length ≤ 1048576) :
    Calls Try.prog 26 #[.slice A l.length cap, .slice A2 l.length cap2] w fun e w' => e = .returned (.bool true) ∧ Below w.heap.size w w' := by
  have HA := Lib.hid h
  have HA2 := Lib.hid h2
  clear h h2
  go_enter Try.func26, Try.ntmps26
  go_wp2
  go_loopw [5] (fun i wr => ∃ (k d : Nat), k ≤ l.length ∧ i = .int .i64 k ∧ wr = w.drewN d) (fun i _ => l.length - (intOf i).toNat)
  case atStart => exact ⟨0, 0, Nat.zero_le _, rfl, rfl⟩
  case round =>
    obtain ⟨k, d, hk, rfl, rfl⟩ := hrel
    by_cases hlt : k < l.length
    · obtain ⟨b, off, hA, hbl, h0⟩ := HA.out.at_ hlt
      obtain ⟨b2, off2, hA2, hbl2, g0⟩ := HA2.out.at_ hlt
      subst hA hA2
      have hk0i : (0 : Int) ≤ (k : Int) := by omega
      have hk1i : (k : Int) < (l.length : Int) := by omega
      generalize l.getD k 0 = x at *
      go_wp2
      go_quiet (fail)
      go_wp2
      go_roundw
      case rel => exact ⟨k + 1, _, by omega, by go_num, rfl⟩
      case measure => simp [intOf]; omega
    · go_wp2
      go_ret
      exact ⟨rfl, below_drewN (Below.refl _ _) d⟩

/-- The numbers from m on. -/
def marksI (m n : Nat) : List Int := (List.range n).map fun i => ((m + i : Nat) : Int)
theorem marksI_len (m n : Nat) : (marksI m n).length = n := by simp [marksI]
theorem marksI_get (m n i : Nat) (h : i < n) : (marksI m n).getD i 0 = ((m + i : Nat) : Int) := by simp [marksI, List.getD, h]
def mkI (m : Nat) (xs : List Value) (j : Nat) : List Value := (marksI m j).map iv ++ xs.drop j
theorem mkI_zero (m : Nat) (xs : List Value) : mkI m xs 0 = xs := by simp [mkI, marksI]
theorem mkI_set (m : Nat) (xs : List Value) (j : Nat) (h : j < xs.length) : (mkI m xs j).set j (iv ((m + j : Nat) : Int)) = mkI m xs (j + 1) := by
  unfold mkI marksI
  rw [List.set_append_right _ _ (by simp), List.range_succ, List.map_append, List.map_append, List.append_assoc]
  congr 1
  simp only [List.length_map, List.length_range, Nat.sub_self]
  rw [List.drop_eq_getElem_cons h]
  rfl
theorem mkI_len (m : Nat) (xs : List Value) (j : Nat) (h : j ≤ xs.length) : (mkI m xs j).length = xs.length := by simp [mkI, marksI]; omega
theorem mkI_has (m : Nat) (xs : List Value) (j : Nat) (h : j < xs.length) : ∃ u, (mkI m xs j)[j]? = some u := by
  have hl := mkI_len m xs j (by omega)
  exact ⟨_, List.getElem?_eq_getElem (by rw [hl]; exact h)⟩
theorem mkI_full (m : Nat) (xs : List Value) : mkI m xs xs.length = (marksI m xs.length).map iv := by simp [mkI]

set_option maxHeartbeats 1000000 in
theorem markints_any (B g cap m : Nat) (l : List Int) (w : World) (h : IOwn w B (.slice (some ⟨g, 0, none⟩) l.length cap) l) (hn : l.length ≤ 1048576) (hm : m ≤ 1048576) :
    Calls Try.prog 28 #[.slice (some ⟨g, 0, none⟩) l.length cap, .int .i64 (m : Int)] w fun e w' => e = .returned (.int .i64 ((m + l.length : Nat) : Int)) ∧ IOwn w' B (.slice (some ⟨g, 0, none⟩) l.length cap) (marksI m l.length) ∧ Below B w w' := by
  have hB := (World.ownsRow.lt h g rfl).1
  unfold IOwn at h ⊢
  rw [marksI_len]
  have hx : (l.map iv).length = l.length := by simp
  have HF := Lib.hid (show mkI m (l.map iv) l.length = (marksI m l.length).map iv by have := mkI_full m (l.map iv); rwa [hx] at this)
  have HX := Lib.hid hx
  clear hx
  generalize l.length = n at *
  generalize l.map iv = xs at *
  go_enter Try.func28, Try.ntmps28
  go_wp2
  go_loopw [1, 5] (fun k i wr => ∃ j : Nat, j ≤ n ∧ k = .int .i64 ((m + j : Nat) : Int) ∧ i = .int .i64 j ∧ wr.ownsRow B 3 1 (.slice (some ⟨g, 0, none⟩) n cap) n (mkI m xs j) ∧ Below B w wr) (fun _ i _ => n - (intOf i).toNat)
  case atStart => exact ⟨0, Nat.zero_le _, rfl, rfl, by rw [mkI_zero]; exact h, Below.refl _ _⟩
  case round =>
    obtain ⟨j, hj, rfl, rfl, hown, hb⟩ := hrel
    clear h
    by_cases hlt : j < n
    · have hset := Lib.hid (mkI_set m xs j (by rw [HX.out]; exact hlt))
      obtain ⟨u, hu⟩ := mkI_has m xs j (by rw [HX.out]; exact hlt)
      have hcell := (hown.cellAt j (by omega)).trans hu
      have hfz := hown.frozenAt j
      have HO := Lib.hid hown
      have hjn : m + j + 1 = m + (j + 1) := by omega
      clear hown hu
      go_wp2
      have hst := HO.out.stored j (iv ((m + j : Nat) : Int))
      rw [hset.out] at hst
      go_roundw
      case rel => exact ⟨j + 1, by omega, by go_num, by go_num, hst.1, hb.setCell (p := ⟨g, j, none⟩) hB _⟩
      case measure => simp [intOf]; omega
    · have hjn : j = n := by omega
      subst hjn
      go_wp2
      go_ret
      exact ⟨rfl, by rw [← HF.out]; exact hown, hb⟩

set_option maxHeartbeats 1000000 in
theorem heldints_any (A : Option Addr) (cap m n : Nat) (w : World) (h : IAt w A (marksI m n)) (hn : n ≤ 1048576) (hm : m ≤ 1048576) :
    Calls Try.prog 29 #[.slice A n cap, .int .i64 (m : Int)] w fun e w' => e = .returned (.int .i64 ((m + n : Nat) : Int)) ∧ Below w.heap.size w w' := by
  have HA := Lib.hid h
  clear h
  go_enter Try.func29, Try.ntmps29
  go_wp2
  go_loopw [1, 5] (fun k i wr => ∃ j : Nat, j ≤ n ∧ k = .int .i64 ((m + j : Nat) : Int) ∧ i = .int .i64 j ∧ Below w.heap.size w wr) (fun _ i _ => n - (intOf i).toNat)
  case atStart => exact ⟨0, Nat.zero_le _, rfl, rfl, Below.refl _ _⟩
  case round =>
    obtain ⟨j, hj, rfl, rfl, hb⟩ := hrel
    by_cases hlt : j < n
    · obtain ⟨b, off, hA, hbl, h0⟩ := HA.out.at_ (i := j) (by rw [marksI_len]; exact hlt)
      subst hA
      rw [marksI_get m n j hlt] at h0
      obtain ⟨hc, hf⟩ := bcell hb
      have hjn : m + j + 1 = m + (j + 1) := by omega
      go_wp2
      go_roundw
      case rel => exact ⟨j + 1, by omega, by go_num, by go_num, hb⟩
      case measure => simp [intOf]; omega
    · have hjn : j = n := by omega
      subst hjn
      go_wp2
      go_ret
      exact ⟨rfl, hb⟩
end Go.Proofs.Ytgjogjmfpbinfaa.S2

namespace Go.Proofs.Ytgjogjmfpbinfaa.S2
open Go.RowKit P2

theorem set4 (m j : Nat) (xs : List Value) (h : j * 4 + 3 < xs.length) :
    ((((mkI m xs (j * 4)).set (j * 4) (iv ((m + j * 4 : Nat) : Int))).set (j * 4 + 1) (iv ((m + (j * 4 + 1) : Nat) : Int))).set (j * 4 + 2) (iv ((m + (j * 4 + 2) : Nat) : Int))).set (j * 4 + 3) (iv ((m + (j * 4 + 3) : Nat) : Int)) = mkI m xs ((j + 1) * 4) := by
  rw [mkI_set m xs (j * 4) (by omega), mkI_set m xs (j * 4 + 1) (by omega), mkI_set m xs (j * 4 + 2) (by omega), mkI_set m xs (j * 4 + 3) (by omega), show (j + 1) * 4 = j * 4 + 3 + 1 by omega]
theorem grown_set {w w' : World} {g : Nat} (h : w.grownBy w' (some g)) (o : Nat) (u : Value) : w.grownBy (w'.setCell ⟨g, o, none⟩ u) (some g) :=
  ⟨h.os, h.tape, h.output, by have := h.size; simpa using this, fun k hk hne => by
    rw [Below.heap_setCell _ _ _ _ (by intro e; exact hne (by rw [e]))]
    exact h.block k hk hne⟩
theorem grown_refl (w : World) (r : Option Nat) : w.grownBy w r := ⟨rfl, rfl, rfl, Nat.le_refl _, fun _ _ _ => rfl⟩

set_option maxHeartbeats 2000000 in
theorem markpipes_any (B g cap m n : Nat) (xs : List Value) (hx : xs.length = n * 4) (w : World) (h : w.ownsRow B 75 4 (.slice (some ⟨g, 0, none⟩) n cap) n xs) (hn : n ≤ 1048576) (hm : m ≤ 1048576) :
    Calls Try.prog 120 #[.slice (some ⟨g, 0, none⟩) n cap, .int .i64 (m : Int)] w fun e w' => e = .returned (.int .i64 ((m + n * 4 : Nat) : Int)) ∧ w'.ownsRow B 75 4 (.slice (some ⟨g, 0, none⟩) n cap) n ((marksI m (n * 4)).map iv) ∧ w.grownBy w' (some g) := by
  have HF := Lib.hid (show mkI m xs (n * 4) = (marksI m (n * 4)).map iv by have := mkI_full m xs; rwa [hx] at this)
  have HX := Lib.hid hx
  clear hx
  go_enter Try.func120, Try.ntmps120
  go_wp2
  go_loopw [1, 5] (fun k i wr => ∃ j : Nat, j ≤ n ∧ k = .int .i64 ((m + j * 4 : Nat) : Int) ∧ i = .int .i64 j ∧ wr.ownsRow B 75 4 (.slice (some ⟨g, 0, none⟩) n cap) n (mkI m xs (j * 4)) ∧ w.grownBy wr (some g)) (fun _ i _ => n - (intOf i).toNat)
  case atStart => exact ⟨0, Nat.zero_le _, rfl, rfl, by rw [Nat.zero_mul, mkI_zero]; exact h, grown_refl _ _⟩
  case round =>
    obtain ⟨j, hj, rfl, rfl, hown, hb⟩ := hrel
    clear h
    by_cases hlt : j < n
    · have hset := Lib.hid (set4 m j xs (by rw [HX.out]; omega))
      have hlen := mkI_len m xs (j * 4) (by rw [HX.out]; omega)
      have hL := hlen.trans HX.out
      have c0 := (hown.cellAt (j * 4) (by omega)).trans (List.getElem?_eq_getElem (by omega))
      have c1 := (hown.cellAt (j * 4 + 1) (by omega)).trans (List.getElem?_eq_getElem (by omega))
      have c2 := (hown.cellAt (j * 4 + 2) (by omega)).trans (List.getElem?_eq_getElem (by omega))
      have c3 := (hown.cellAt (j * 4 + 3) (by omega)).trans (List.getElem?_eq_getElem (by omega))
      generalize (mkI m xs (j * 4))[j * 4]'(by omega) = u0 at c0
      generalize (mkI m xs (j * 4))[j * 4 + 1]'(by omega) = u1 at c1
      generalize (mkI m xs (j * 4))[j * 4 + 2]'(by omega) = u2 at c2
      generalize (mkI m xs (j * 4))[j * 4 + 3]'(by omega) = u3 at c3
      have hfz := fun o => hown.frozenAt o
      have HO := Lib.hid hown
      clear hown hlen hL
      have el : ((((mkI m xs (j * 4)).set (j * 4) (iv ((m : Int) + (j : Int) * 4))).set (j * 4 + 1) (iv ((m : Int) + (j : Int) * 4 + 1))).set (j * 4 + 2) (iv ((m : Int) + (j : Int) * 4 + 1 + 1))).set (j * 4 + 3) (iv ((m : Int) + (j : Int) * 4 + 1 + 1 + 1)) = mkI m xs ((j + 1) * 4) := by
        rw [show (m : Int) + (j : Int) * 4 + 1 + 1 + 1 = ((m + (j * 4 + 3) : Nat) : Int) by omega, show (m : Int) + (j : Int) * 4 + 1 + 1 = ((m + (j * 4 + 2) : Nat) : Int) by omega, show (m : Int) + (j : Int) * 4 + 1 = ((m + (j * 4 + 1) : Nat) : Int) by omega, show (m : Int) + (j : Int) * 4 = ((m + j * 4 : Nat) : Int) by omega]
        exact hset.out
      have EL := Lib.hid el
      clear el
      go_wp2
      have s3 := (((((HO.out.stored (j * 4) (iv ((m : Int) + (j : Int) * 4))).1.stored (j * 4 + 1) (iv ((m : Int) + (j : Int) * 4 + 1))).1.stored (j * 4 + 2) (iv ((m : Int) + (j : Int) * 4 + 1 + 1))).1.stored (j * 4 + 3) (iv ((m : Int) + (j : Int) * 4 + 1 + 1 + 1)))).1
      rw [EL.out] at s3
      go_roundw
      case rel => exact ⟨j + 1, by omega, by congr 1; omega, by go_num, s3, grown_set (grown_set (grown_set (grown_set hb _ _) _ _) _ _) _ _⟩
      case measure => simp [intOf]; omega
    · have hjn : j = n := by omega
      subst hjn
      go_wp2
      go_ret
      exact ⟨rfl, by rw [← HF.out]; exact hown, hb⟩

/-- A network's pipes, marked. -/
theorem row_own {w : World} {g n : Nat} {f : Nat → Value} (h : w.rowIs g 75 (n * 4) f) (hn : n ≤ 1048576) : ∃ xs : List Value, xs.length = n * 4 ∧ w.ownsRow g 75 4 (.slice (some ⟨g, 0, none⟩) n n) n xs := by
  obtain ⟨c, hb, hs, _⟩ := h
  refine ⟨c.toList, by simpa using hs, by simpa using hs, .inr ⟨g, n, c, rfl, Nat.le_refl _, hb, Nat.le_refl _, by simp only [maxLen]; omega, hs, ?_⟩⟩
  rw [List.take_of_length_le (by simp; omega)]

theorem marknet_any (x : Int) (g m : Nat) (ps : List Pp) (w : World) (h : PRow w g ps) (hn : ps.length ≤ 1048576) (hm : m ≤ 1048576) :
    Calls Try.prog 27 #[nv x (some ⟨g, 0, none⟩) ps.length ps.length, .int .i64 (m : Int)] w fun e w' => e = .returned (.int .i64 ((m + ps.length * 4 : Nat) : Int)) ∧ ∃ wm, Below w.heap.size w wm ∧ wm.grownBy w' (some g) := by
  have hg := h.lt
  have H := Lib.hid (fun w' (hb : Below w.heap.size w w') => row_own (rowIs_below h hb hg) hn)
  have HM := Lib.hid (fun xs hx w' ho => markpipes_any g g ps.length m ps.length xs hx w' ho hn hm)
  clear h
  go_enter Try.func27, Try.ntmps27
  go_wp2_with (go_at_call 120; obtain ⟨xs, hx, ho⟩ := H.out _ ((Below.refl _ _).alloc (Nat.le_refl _) (.cells #[.int .i64 x, .slice (some ⟨g, 0, none⟩) ps.length ps.length] 30)); refine (HM.out xs hx _ ho).mono ?_; rintro e w1 ⟨rfl, _, hg1⟩)
  go_ret
  exact ⟨rfl, _, (Below.refl _ _).alloc (Nat.le_refl _) _, hg1⟩
end Go.Proofs.Ytgjogjmfpbinfaa.S2

namespace Go.Proofs.Ytgjogjmfpbinfaa.S2
open Go.RowKit P2

set_option maxHeartbeats 1000000 in
theorem markints_far (B g cap m : Nat) (l : List Int) (w : World) (h : IOwn w B (.slice (some ⟨g, 0, none⟩) l.length cap) l) (hn : l.length ≤ 1048576) (hm : m ≤ 104857600) :
    Calls Try.prog 28 #[.slice (some ⟨g, 0, none⟩) l.length cap, .int .i64 (m : Int)] w fun e w' => e = .returned (.int .i64 ((m + l.length : Nat) : Int)) ∧ IOwn w' B (.slice (some ⟨g, 0, none⟩) l.length cap) (marksI m l.length) ∧ w.grownBy w' (some g) := by
  have hB := (World.ownsRow.lt h g rfl).1
  unfold IOwn at h ⊢
  rw [marksI_len]
  have hx : (l.map iv).length = l.length := by simp
  have HF := Lib.hid (show mkI m (l.map iv) l.length = (marksI m l.length).map iv by have := mkI_full m (l.map iv); rwa [hx] at this)
  have HX := Lib.hid hx
  clear hx
  generalize l.length = n at *
  generalize l.map iv = xs at *
  go_enter Try.func28, Try.ntmps28
  go_wp2
  go_loopw [1, 5] (fun k i wr => ∃ j : Nat, j ≤ n ∧ k = .int .i64 ((m + j : Nat) : Int) ∧ i = .int .i64 j ∧ wr.ownsRow B 3 1 (.slice (some ⟨g, 0, none⟩) n cap) n (mkI m xs j) ∧ w.grownBy wr (some g)) (fun _ i _ => n - (intOf i).toNat)
  case atStart => exact ⟨0, Nat.zero_le _, rfl, rfl, by rw [mkI_zero]; exact h, World.grownBy.refl _ _⟩
  case round =>
    obtain ⟨j, hj, rfl, rfl, hown, hb⟩ := hrel
    clear h
    by_cases hlt : j < n
    · have hset := Lib.hid (mkI_set m xs j (by rw [HX.out]; exact hlt))
      obtain ⟨u, hu⟩ := mkI_has m xs j (by rw [HX.out]; exact hlt)
      have hcell := (hown.cellAt j (by omega)).trans hu
      have hfz := hown.frozenAt j
      have HO := Lib.hid hown
      have hjn : m + j + 1 = m + (j + 1) := by omega
      clear hown hu
      go_wp2
      have hst := HO.out.stored j (iv ((m + j : Nat) : Int))
      rw [hset.out] at hst
      go_roundw
      case rel => exact ⟨j + 1, by omega, by go_num, by go_num, hst.1, grown_set hb _ _⟩
      case measure => simp [intOf]; omega
    · have hjn : j = n := by omega
      subst hjn
      go_wp2
      go_ret
      exact ⟨rfl, by rw [← HF.out]; exact hown, hb⟩

end Go.Proofs.Ytgjogjmfpbinfaa.S2

namespace Go.Proofs.Ytgjogjmfpbinfaa.S2
open Go.RowKit Go.ChangeShapes Go.WideShapes Go.Deep Go.Joins P2

section
variable {H : Type} {enc : TypeId × Value → H} {w : World} {spare : Nat → Bool}
theorem intsOne : Try.prog.cellsOf 3 = 1 := by kernel_rfl
theorem pipeFour : Try.prog.cellsOf 161 = 4 := by kernel_rfl
set_option maxRecDepth 100000 in
theorem pipe_open {fuel : Nat} {cs : List Value} {x : DataW H × List MemPlace} (h : DataW.trod enc Try.prog w 0 spare true fuel 161 cs = some x) :
    ∃ q : Pp, cs = [.int .i64 q.id, .int .i64 q.fr, .int .i64 q.to, .int .i64 q.sz] := by
  obtain ⟨xs, n, _, _, hl, hlx, hf⟩ := DataW.trod_struct Try.underlying161 h
  rw [pipeFour] at hl
  match cs, hl, xs, hlx with
  | [c0, c1, c2, c3], _, [y0, y1, y2, y3], _ =>
    have g0 : DataW.trod enc Try.prog w 0 spare true n 3 (List.take (Try.prog.cellsOf 3) (List.drop 0 [c0, c1, c2, c3])) = some y0 := hf 0 _ rfl
    have g1 : DataW.trod enc Try.prog w 0 spare true n 3 (List.take (Try.prog.cellsOf 3) (List.drop 1 [c0, c1, c2, c3])) = some y1 := hf 1 _ rfl
    have g2 : DataW.trod enc Try.prog w 0 spare true n 3 (List.take (Try.prog.cellsOf 3) (List.drop 2 [c0, c1, c2, c3])) = some y2 := hf 2 _ rfl
    have g3 : DataW.trod enc Try.prog w 0 spare true n 3 (List.take (Try.prog.cellsOf 3) (List.drop 3 [c0, c1, c2, c3])) = some y3 := hf 3 _ rfl
    rw [intsOne] at g0 g1 g2 g3
    obtain ⟨n0, e0, _⟩ := DataW.trod_int (cs := [c0]) Try.underlying3 g0
    obtain ⟨n1, e1, _⟩ := DataW.trod_int (cs := [c1]) Try.underlying3 g1
    obtain ⟨n2, e2, _⟩ := DataW.trod_int (cs := [c2]) Try.underlying3 g2
    obtain ⟨n3, e3, _⟩ := DataW.trod_int (cs := [c3]) Try.underlying3 g3
    injection e0 with e0
    injection e1 with e1
    injection e2 with e2
    injection e3 with e3
    exact ⟨⟨n0, n1, n2, n3⟩, by rw [e0, e1, e2, e3]⟩

theorem add_plus (b off i : Nat) : (⟨b, off, none⟩ : Addr).add i = ⟨b, off + i, none⟩ := by unfold Addr.add; split <;> simp_all

set_option maxRecDepth 100000 in
theorem pipes_open {fuel : Nat} {v : Value} {x : DataW H × List MemPlace} (h : DataW.trod enc Try.prog w 0 (fun _ => true) true fuel 22 [v] = some x) :
    ∃ (A : Option Addr) (cap : Nat) (ps : List Pp), v = .slice A ps.length cap ∧ PAt w A ps ∧ ps.length ≤ maxLen := by
  rcases open_slice Try.underlying22 h with ⟨hcs, _⟩ | ⟨a, len, cap, m, n, D, Pl, hcs, _, hl, hm, hmm, _, hi⟩
  · injection hcs with hcs
    exact ⟨none, 0, [], hcs, .inl rfl, by simp⟩
  · injection hcs with hcs
    have hm' : len ≤ m := by rw [hmm]; split <;> omega
    have h4 := pipeFour
    have hq : ∀ i, ∃ q : Pp, i < len → w.cell? (a.add (i * 4)) = some (.int .i64 q.id) ∧ w.cell? ((a.add (i * 4)).add 1) = some (.int .i64 q.fr) ∧ w.cell? ((a.add (i * 4)).add 2) = some (.int .i64 q.to) ∧ w.cell? ((a.add (i * 4)).add 3) = some (.int .i64 q.sz) := by
      intro i
      by_cases hil : i < len
      · obtain ⟨cs', hc, ht⟩ := hi i (by omega)
        rw [h4] at hc
        obtain ⟨q, rfl⟩ := pipe_open ht
        obtain ⟨_, _, hat⟩ := World.cells?_some hc
        refine ⟨q, fun _ => ⟨?_, ?_, ?_, ?_⟩⟩
        · have := hat 0 (by omega)
          simpa [Addr.add] using this
        · exact hat 1 (by omega)
        · exact hat 2 (by omega)
        · exact hat 3 (by omega)
      · exact ⟨default, fun h => absurd h hil⟩
    obtain ⟨f, hf⟩ := Classical.axiomOfChoice hq
    have hlen : ((List.range len).map f).length = len := by simp
    refine ⟨some a, cap, (List.range len).map f, by rw [hcs, hlen], ?_, by rw [hlen]; omega⟩
    by_cases h0 : len = 0
    · subst h0; exact .inl rfl
    · obtain ⟨b, off, spot⟩ := a
      have hspot : spot = none := by
        have := (hf 0 (by omega)).1
        simpa [Addr.add] using World.cell?_spot this
      subst hspot
      have hbl : b < w.heap.size := by
        have := World.block_lt_of_cell? w _ (hf 0 (by omega)).1
        rw [add_plus] at this
        exact this
      refine .inr ⟨b, off, rfl, hbl, fun i hi' => ?_⟩
      rw [hlen] at hi'
      have e : pAt ((List.range len).map f) i = f i := by unfold pAt; simp [List.getD, hi']
      obtain ⟨c0, c1, c2, c3⟩ := hf i hi'
      rw [e]
      rw [add_plus] at c0 c1 c2 c3
      rw [add_plus] at c1 c2 c3
      exact ⟨c0, c1, c2, c3⟩

set_option maxRecDepth 100000 in
theorem net_open {r : Reach} {b0 : Nat} {v : Value} {d : DataW H} {p : List MemPlace} (hv : Value.okWide Try.prog w r b0 24 v) (h : DataW.Trod enc Try.prog w 0 (fun _ => true) true 24 v d p) :
    ∃ (n : Int) (A : Option Addr) (cap : Nat) (ps : List Pp), v = nv n A ps.length cap ∧ PAt w A ps ∧ ps.length ≤ maxLen := by
  obtain ⟨v0, v1, y0, y1, n, rfl, _, _, h0, h1⟩ := open_agg2 Try.underlying24 (by kernel_rfl) (by kernel_rfl) hv h
  obtain ⟨k, e0, _⟩ := DataW.trod_int Try.underlying3 h0
  injection e0 with e0
  obtain ⟨A, cap, ps, rfl, hA, hm⟩ := pipes_open h1
  exact ⟨k, A, cap, ps, by rw [e0], hA, hm⟩
set_option maxRecDepth 100000 in
theorem int_open {r : Reach} {b0 : Nat} {v : Value} {d : DataW H} {p : List MemPlace} (hv : Value.okWide Try.prog w r b0 3 v) (h : DataW.Trod enc Try.prog w 0 (fun _ => true) true 3 v d p) : ∃ n : Int, v = .int .i64 n ∧ -9223372036854775808 ≤ n ∧ n ≤ 9223372036854775807 := by
  obtain ⟨n, hn, _, _, hw⟩ := open_int Try.underlying3 hv h
  refine ⟨n, hn, ?_⟩
  have e1 : IntKind.i64.min = -9223372036854775808 := rfl
  have e2 : IntKind.i64.max = 9223372036854775807 := rfl
  simpa [Lit.wf, e1, e2] using hw
end
end Go.Proofs.Ytgjogjmfpbinfaa.S2

namespace Go.Proofs.Ytgjogjmfpbinfaa.S2
open Go.RowKit P2
theorem gives_none {w w0 : World} (h : Below w0.heap.size w0 w) : GivesI w0 [] false (.returned (.tuple #[.slice (some ⟨w.heap.size, 0, none⟩) 0 0, .bool false])) (w.alloc (.cells #[] 3)) :=
  ⟨_, _, rfl, h.size, own_empty w w0.heap.size h.size, h.alloc h.size _⟩
end Go.Proofs.Ytgjogjmfpbinfaa.S2

namespace Go.Proofs.Ytgjogjmfpbinfaa.P2

def Jn (p : Pp) (a b : Int) : Prop := (p.fr = a ∧ p.to = b) ∨ (p.to = a ∧ p.fr = b)
theorem Jn.symm {p : Pp} {a b : Int} (h : Jn p a b) : Jn p b a := by
  rcases h with ⟨h1, h2⟩ | ⟨h1, h2⟩
  · exact .inr ⟨h2, h1⟩
  · exact .inl ⟨h2, h1⟩
def Adj (ps : List Pp) (a b : Int) : Prop := ∃ p, p ∈ ps ∧ Jn p a b
theorem Adj.symm {ps : List Pp} {a b : Int} (h : Adj ps a b) : Adj ps b a := by
  obtain ⟨p, hp, hj⟩ := h
  exact ⟨p, hp, hj.symm⟩
/-- A way of k pipes. -/
def Path (ps : List Pp) : Nat → Int → Int → Prop
  | 0, a, b => a = b
  | k + 1, a, b => ∃ c, Adj ps a c ∧ Path ps k c b
theorem Path.snoc {ps : List Pp} : ∀ {k : Nat} {a b c : Int}, Path ps k a b → Adj ps b c → Path ps (k + 1) a c
  | 0, a, b, c, h, hj => by
    have e : a = b := h
    subst e
    exact ⟨c, hj, rfl⟩
  | k + 1, a, b, c, h, hj => by
    obtain ⟨x, h1, h2⟩ := h
    exact ⟨x, h1, h2.snoc hj⟩
theorem Path.symm {ps : List Pp} : ∀ {k : Nat} {a b : Int}, Path ps k a b → Path ps k b a
  | 0, a, b, h => (show a = b from h).symm
  | k + 1, a, b, h => by
    obtain ⟨x, h1, h2⟩ := h
    exact h2.symm.snoc h1.symm
theorem Path.join {ps : List Pp} : ∀ {k j : Nat} {a b c : Int}, Path ps k a b → Path ps j b c → Path ps (k + j) a c
  | 0, j, a, b, c, h, h2 => by
    have e : a = b := h
    subst e
    rw [Nat.zero_add]; exact h2
  | k + 1, j, a, b, c, h, h2 => by
    obtain ⟨x, h1, h3⟩ := h
    rw [show k + 1 + j = (k + j) + 1 by omega]
    exact ⟨x, h1, h3.join h2⟩
def Conn (ps : List Pp) (a b : Int) : Prop := ∃ k, Path ps k a b

theorem least_nat (P : Nat → Prop) (k : Nat) (h : P k) : ∃ m, P m ∧ ∀ j, P j → m ≤ j := by
  induction k using Nat.strongRecOn with
  | _ k ih =>
    by_cases hs : ∃ j, j < k ∧ P j
    · obtain ⟨j, hj, hp⟩ := hs
      exact ih j hj hp
    · exact ⟨k, h, fun j hj => Classical.byContradiction fun hn => hs ⟨j, by omega, hj⟩⟩

/-- d is the distance of v to t. -/
def IsD (ps : List Pp) (t v d : Int) : Prop := (d = -1 ∧ ¬ Conn ps v t) ∨ ∃ k : Nat, d = k ∧ Path ps k v t ∧ ∀ j, Path ps j v t → k ≤ j
theorem isD_ex (ps : List Pp) (t v : Int) : ∃ d, IsD ps t v d := by
  by_cases h : Conn ps v t
  · obtain ⟨k, hk⟩ := h
    obtain ⟨m, hm, hl⟩ := least_nat (fun k => Path ps k v t) k hk
    exact ⟨m, .inr ⟨m, rfl, hm, hl⟩⟩
  · exact ⟨-1, .inl ⟨rfl, h⟩⟩
theorem isD_one {ps : List Pp} {t v d e : Int} (h : IsD ps t v d) (g : IsD ps t v e) : d = e := by
  rcases h with ⟨h1, h2⟩ | ⟨k, h1, h2, h3⟩
  · rcases g with ⟨g1, _⟩ | ⟨j, _, g2, _⟩
    · rw [h1, g1]
    · exact absurd ⟨j, g2⟩ h2
  · rcases g with ⟨_, g2⟩ | ⟨j, g1, g2, g3⟩
    · exact absurd ⟨k, h2⟩ g2
    · have a := h3 j g2
      have b := g3 k h2
      rw [h1, g1]; omega
noncomputable def dist (ps : List Pp) (t v : Int) : Int := Classical.choose (isD_ex ps t v)
theorem dist_is (ps : List Pp) (t v : Int) : IsD ps t v (dist ps t v) := Classical.choose_spec (isD_ex ps t v)
theorem dist_self (ps : List Pp) (t : Int) : dist ps t t = 0 := isD_one (dist_is ps t t) (.inr ⟨0, rfl, rfl, fun _ _ => Nat.zero_le _⟩)
theorem dist_conn {ps : List Pp} {t v : Int} : dist ps t v ≠ -1 ↔ Conn ps v t := by
  rcases dist_is ps t v with ⟨h1, h2⟩ | ⟨k, h1, h2, _⟩
  · exact ⟨fun h => absurd h1 h, fun h => absurd h h2⟩
  · exact ⟨fun _ => ⟨k, h2⟩, fun _ => by omega⟩

/-- The other end. -/
def oth (p : Pp) (x : Int) : Int := if p.fr = x then p.to else p.fr
theorem oth_jn {p : Pp} {x : Int} (h : p.fr = x ∨ p.to = x) : Jn p x (oth p x) := by
  unfold oth
  split
  · rename_i h1; exact .inl ⟨h1, rfl⟩
  · rename_i h1
    rcases h with h | h
    · exact absurd h h1
    · exact .inr ⟨h, rfl⟩
theorem jn_oth {n : Int} {p : Pp} {x u : Int} (hp : PpOk n p) (h : Jn p x u) : oth p x = u ∧ (p.fr = x ∨ p.to = x) := by
  unfold oth
  rcases h with ⟨h1, h2⟩ | ⟨h1, h2⟩
  · rw [if_pos h1]; exact ⟨h2, .inl h1⟩
  · rw [if_neg (by intro e; exact hp.2.2.2.2.2.2.1 (by rw [e, h1]))]; exact ⟨h2, .inr h1⟩
theorem oth_in {n : Int} {p : Pp} {x : Int} (hp : PpOk n p) : 1 ≤ oth p x ∧ oth p x ≤ n := by
  unfold oth
  unfold PpOk at hp
  split <;> omega
theorem good_pp {n : Int} {ps : List Pp} (h : Good n ps) {p : Pp} (hp : p ∈ ps) : PpOk n p := by
  obtain ⟨i, hi⟩ := List.getElem?_of_mem hp
  have hlt : i < ps.length := (List.getElem?_eq_some_iff.1 hi).1
  exact (h.2.2.2 i hlt p hi).1

/-! ### The search -/
def dA (D : List Int) (v : Nat) : Int := D.getD v 0
theorem dA_set_same (D : List Int) (v : Nat) (x : Int) (h : v < D.length) : dA (D.set v x) v = x := by simp [dA, List.getD, h]
theorem dA_set_ne (D : List Int) (v u : Nat) (x : Int) (h : u ≠ v) : dA (D.set v x) u = dA D u := by
  simp [dA, List.getD, Ne.symm h]
/-- How many are not found. -/
def und (D : List Int) : Nat := D.count (-1)
theorem und_set (D : List Int) (v : Nat) (x : Int) (h : v < D.length) (hv : dA D v = -1) (hx : x ≠ -1) : und (D.set v x) + 1 = und D := by
  have e : D = D.take v ++ (-1) :: D.drop (v + 1) := by
    have h1 : D[v] = -1 := by simpa [dA, List.getD, h] using hv
    rw [← h1, List.getElem_cons_drop h, List.take_append_drop]
  have e2 : D.set v x = D.take v ++ x :: D.drop (v + 1) := by
    rw [List.set_eq_take_append_cons_drop, if_pos h]
  unfold und
  rw [e2]
  conv => rhs; rw [e]
  rw [List.count_append, List.count_append, List.count_cons, List.count_cons]
  simp [hx]
  omega

structure Bf (n : Nat) (ps : List Pp) (t : Nat) (D : List Int) (Q : List Nat) : Prop where
  len : D.length = n + 1
  zero : dA D 0 = -1
  self : dA D t = 0
  sound : ∀ v : Nat, v ≤ n → dA D v = -1 ∨ ∃ k : Nat, dA D v = k ∧ Path ps k v t
  inq : ∀ v, v ∈ Q → v ≤ n ∧ dA D v ≠ -1
  done : ∀ v : Nat, v ≤ n → dA D v ≠ -1 → v ∉ Q → ∀ u : Nat, u ≤ n → Adj ps v u → dA D u ≠ -1 ∧ dA D u ≤ dA D v + 1
  mono : Q.Pairwise (fun a b => dA D a ≤ dA D b)
  top : ∀ h r, Q = h :: r → ∀ v : Nat, v ≤ n → dA D v ≤ dA D h + 1
  cnt : und D + Q.length ≤ n + 1

structure Bi (n : Nat) (ps : List Pp) (t : Nat) (D : List Int) (Q : List Nat) (h : Nat) (row : List Pp) (k : Nat) : Prop where
  len : D.length = n + 1
  zero : dA D 0 = -1
  self : dA D t = 0
  sound : ∀ v : Nat, v ≤ n → dA D v = -1 ∨ ∃ k : Nat, dA D v = k ∧ Path ps k v t
  hd : h ≤ n ∧ dA D h ≠ -1
  inq : ∀ v, v ∈ Q → v ≤ n ∧ dA D v ≠ -1
  done : ∀ v : Nat, v ≤ n → dA D v ≠ -1 → v ∉ Q → v ≠ h → ∀ u : Nat, u ≤ n → Adj ps v u → dA D u ≠ -1 ∧ dA D u ≤ dA D v + 1
  part : ∀ i, i < k → i < row.length → ∀ u : Nat, oth (pAt row i) h = u → dA D u ≠ -1 ∧ dA D u ≤ dA D h + 1
  mono : Q.Pairwise (fun a b => dA D a ≤ dA D b)
  lo : ∀ q, q ∈ Q → dA D h ≤ dA D q
  top : ∀ v : Nat, v ≤ n → dA D v ≤ dA D h + 1
  cnt : und D + Q.length ≤ n

/-- No distance told is greater than what has been found allows. -/
def Bd (n : Nat) (D : List Int) : Prop := ∀ v : Nat, v ≤ n → dA D v + und D ≤ n
theorem Bd.start (n t : Nat) (h2 : t ≤ n) : Bd n ((List.replicate (n + 1) (-1)).set t 0) := by
  intro v hv
  have hl : t < (List.replicate (n + 1) (-1 : Int)).length := by simp; omega
  have hr : ∀ v, v ≤ n → dA (List.replicate (n + 1) (-1 : Int)) v = -1 := by
    intro v hv
    have : v < n + 1 := by omega
    simp [dA, List.getD, this]
  have hu := und_set (List.replicate (n + 1) (-1 : Int)) t 0 hl (hr t h2) (by omega)
  have hc : und (List.replicate (n + 1) (-1 : Int)) = n + 1 := by simp [und]
  by_cases e : v = t
  · subst e; rw [dA_set_same _ _ _ hl]; omega
  · rw [dA_set_ne _ _ _ _ e, hr v hv]; omega
theorem Bd.set {n : Nat} {D : List Int} (b : Bd n D) {u h : Nat} (hl : u < D.length) (hu : dA D u = -1) (hh : h ≤ n) (hx : dA D h + 1 ≠ -1) : Bd n (D.set u (dA D h + 1)) := by
  intro v hv
  have h1 := und_set D u (dA D h + 1) hl hu hx
  have h2 := b h hh
  have h3 := b v hv
  by_cases e : v = u
  · subst e; rw [dA_set_same _ _ _ hl]; omega
  · rw [dA_set_ne _ _ _ _ e]; omega

theorem Bf.start (n : Nat) (ps : List Pp) (t : Nat) (h1 : 1 ≤ t) (h2 : t ≤ n) : Bf n ps t ((List.replicate (n + 1) (-1)).set t 0) [t] := by
  have hl : t < (List.replicate (n + 1) (-1 : Int)).length := by simp; omega
  have hr : ∀ v, v ≤ n → dA (List.replicate (n + 1) (-1 : Int)) v = -1 := by
    intro v hv
    have : v < n + 1 := by omega
    simp [dA, List.getD, this]
  have hs : ∀ v, v ≤ n → v ≠ t → dA ((List.replicate (n + 1) (-1 : Int)).set t 0) v = -1 := fun v hv hne => by rw [dA_set_ne _ _ _ _ hne, hr v hv]
  have ht : dA ((List.replicate (n + 1) (-1 : Int)).set t 0) t = 0 := dA_set_same _ _ _ hl
  refine ⟨by simp, hs 0 (by omega) (by omega), ht, fun v hv => ?_, fun v hv => ?_, fun v hv hne hnq => ?_, List.pairwise_singleton _ _, fun h r e v hv => ?_, ?_⟩
  · by_cases e : v = t
    · subst e; exact .inr ⟨0, ht, rfl⟩
    · exact .inl (hs v hv e)
  · have e : v = t := by simpa using hv
    subst e
    exact ⟨h2, by rw [ht]; omega⟩
  · exact absurd (hs v hv (by simpa using hnq)) hne
  · injection e with e _
    subst e
    rw [ht]
    by_cases e : v = t
    · subst e; rw [ht]; omega
    · rw [hs v hv e]; omega
  · have hu := und_set (List.replicate (n + 1) (-1 : Int)) t 0 hl (hr t h2) (by omega)
    have hc : und (List.replicate (n + 1) (-1 : Int)) = n + 1 := by simp [und]
    simp only [List.length_singleton]
    omega

theorem Bf.pop {n : Nat} {ps : List Pp} {t : Nat} {D : List Int} {h : Nat} {Q : List Nat} (b : Bf n ps t D (h :: Q)) (row : List Pp) : Bi n ps t D Q h row 0 := by
  have hm := List.pairwise_cons.1 b.mono
  refine ⟨b.len, b.zero, b.self, b.sound, b.inq h (by simp), fun v hv => b.inq v (by simp [hv]), fun v hv hne hnq hnh => b.done v hv hne (by simp [hnq, hnh]), fun i hi => absurd hi (by omega), hm.2, hm.1, b.top h Q rfl, ?_⟩
  have := b.cnt
  simp at this
  omega

theorem Bi.old {n : Nat} {ps : List Pp} {t : Nat} {D : List Int} {Q : List Nat} {h : Nat} {row : List Pp} {k u : Nat} (b : Bi n ps t D Q h row k) (hu : oth (pAt row k) h = u) (hun : u ≤ n) (hne : dA D u ≠ -1) : Bi n ps t D Q h row (k + 1) := by
  refine { b with part := fun i hi hr v hv => ?_ }
  by_cases e : i = k
  · subst e
    have : (u : Int) = v := by rw [← hu, ← hv]
    have : u = v := by omega
    subst this
    exact ⟨hne, b.top u hun⟩
  · exact b.part i (by omega) hr v hv

theorem Bi.new {n : Nat} {ps : List Pp} {t : Nat} {D : List Int} {Q : List Nat} {h : Nat} {row : List Pp} {k u : Nat} (b : Bi n ps t D Q h row k) (hu : oth (pAt row k) h = u) (hu0 : 1 ≤ u) (hun : u ≤ n) (hne : dA D u = -1) (hadj : Adj ps u h) :
    Bi n ps t (D.set u (dA D h + 1)) (Q ++ [u]) h row (k + 1) := by
  have hl : u < D.length := by have := b.len; omega
  have hsame := dA_set_same D u (dA D h + 1) hl
  have hot : ∀ v, v ≠ u → dA (D.set u (dA D h + 1)) v = dA D v := fun v hv => dA_set_ne D u v _ hv
  have hfound : ∀ v, dA D v ≠ -1 → v ≠ u := fun v hv e => hv (by rw [e]; exact hne)
  have hh : h ≠ u := hfound h b.hd.2
  obtain ⟨kh, hkh, hph⟩ : ∃ k : Nat, dA D h = k ∧ Path ps k h t := by
    rcases b.sound h b.hd.1 with e | e
    · exact absurd e b.hd.2
    · exact e
  have hx : dA D h + 1 ≠ -1 := by omega
  refine ⟨by simpa using b.len, by rw [hot 0 (by omega)]; exact b.zero, ?_, fun v hv => ?_, ⟨b.hd.1, by rw [hot h hh]; exact b.hd.2⟩, fun v hv => ?_, fun v hv hv1 hnq hvh w hw hj => ?_, fun i hi hr v hv => ?_, ?_, fun q hq => ?_, fun v hv => ?_, ?_⟩
  · rw [hot t (hfound t (by rw [b.self]; omega))]; exact b.self
  · by_cases e : v = u
    · subst e
      rw [hsame]
      exact .inr ⟨kh + 1, by omega, ⟨h, hadj, hph⟩⟩
    · rw [hot v e]; exact b.sound v hv
  · rcases List.mem_append.1 hv with hv | hv
    · obtain ⟨h1, h2⟩ := b.inq v hv
      exact ⟨h1, by rw [hot v (hfound v h2)]; exact h2⟩
    · have e : v = u := by simpa using hv
      subst e
      exact ⟨hun, by rw [hsame]; exact hx⟩
  · have hvu : v ≠ u := fun e => hnq (by simp [e])
    rw [hot v hvu] at hv1 ⊢
    obtain ⟨h1, h2⟩ := b.done v hv hv1 (fun e => hnq (by simp [e])) hvh w hw hj
    rw [hot w (hfound w h1)]
    exact ⟨h1, h2⟩
  · rw [hot h hh]
    by_cases e : v = u
    · subst e
      rw [hsame]
      exact ⟨hx, Int.le_refl _⟩
    · rw [hot v e]
      by_cases e2 : i = k
      · subst e2
        exact absurd (by have : (u : Int) = v := by rw [← hu, ← hv]
                         omega) e
      · exact b.part i (by omega) hr v hv
  · rw [List.pairwise_append]
    refine ⟨b.mono.imp_of_mem fun {x y} hx hy hxy => ?_, List.pairwise_singleton _ _, fun x hx y hy => ?_⟩
    · rw [hot x (hfound x (b.inq x hx).2), hot y (hfound y (b.inq y hy).2)]; exact hxy
    · have e : y = u := by simpa using hy
      subst e
      rw [hsame, hot x (hfound x (b.inq x hx).2)]
      exact b.top x (b.inq x hx).1
  · rw [hot h hh]
    rcases List.mem_append.1 hq with hq | hq
    · rw [hot q (hfound q (b.inq q hq).2)]; exact b.lo q hq
    · have e : q = u := by simpa using hq
      subst e
      rw [hsame]; omega
  · rw [hot h hh]
    by_cases e : v = u
    · subst e; rw [hsame]; omega
    · rw [hot v e]; exact b.top v hv
  · have h1 := und_set D u (dA D h + 1) hl hne hx
    have h2 := b.cnt
    simp
    omega

theorem Bi.finish {n : Nat} {ps : List Pp} {t : Nat} {D : List Int} {Q : List Nat} {h : Nat} {row : List Pp} {k : Nat} (b : Bi n ps t D Q h row k) (hk : row.length ≤ k)
    (hrow : ∀ u : Nat, Adj ps h u → ∃ i, i < row.length ∧ oth (pAt row i) h = u) : Bf n ps t D Q := by
  refine ⟨b.len, b.zero, b.self, b.sound, b.inq, fun v hv hv1 hnq u hu hj => ?_, b.mono, fun q r e v hv => ?_, by have := b.cnt; omega⟩
  · by_cases e : v = h
    · subst e
      obtain ⟨i, hi, ho⟩ := hrow u hj
      exact b.part i (by omega) hi u ho
    · exact b.done v hv hv1 hnq e u hu hj
  · have h1 := b.top v hv
    have h2 := b.lo q (by rw [e]; simp)
    omega

/-- When the queue is empty, all distances are told. -/
theorem Bf.told {n : Nat} {ps : List Pp} {t : Nat} {D : List Int} (b : Bf n ps t D []) (hg : Good n ps) (h2 : t ≤ n) : ∀ v : Nat, v ≤ n → dA D v = dist ps t v := by
  have key : ∀ (k : Nat) (v : Nat), v ≤ n → Path ps k v t → dA D v ≠ -1 ∧ dA D v ≤ k := by
    intro k
    induction k with
    | zero =>
      intro v hv h
      have e : (v : Int) = t := h
      have e : v = t := by omega
      subst e
      rw [b.self]; omega
    | succ k ih =>
      intro v hv h
      obtain ⟨c, hj, hp⟩ := h
      obtain ⟨p, hpm, hjn⟩ := hj
      have hok := good_pp hg hpm
      have hc := jn_oth hok hjn.symm
      have hci : 1 ≤ c ∧ c ≤ n := by
        have := oth_in (x := v) hok
        rw [(jn_oth hok hjn).1] at this
        exact this
      obtain ⟨m, rfl⟩ : ∃ m : Nat, c = m := ⟨c.toNat, by omega⟩
      obtain ⟨h3, h4⟩ := ih m (by omega) hp
      obtain ⟨h5, h6⟩ := b.done m (by omega) h3 (by simp) v hv ⟨p, hpm, hjn.symm⟩
      exact ⟨h5, by omega⟩
  intro v hv
  refine isD_one ?_ (dist_is ps t v)
  rcases b.sound v hv with h | ⟨k, h, hp⟩
  · exact .inl ⟨h, fun ⟨k, hk⟩ => (key k v hv hk).1 h⟩
  · exact .inr ⟨k, h, hp, fun j hj => by have := (key j v hv hj).2; omega⟩
end Go.Proofs.Ytgjogjmfpbinfaa.P2

namespace Go.Proofs.Ytgjogjmfpbinfaa.P2

theorem Conn.rf (ps : List Pp) (a : Int) : Conn ps a a := ⟨0, rfl⟩
theorem Conn.sy {ps : List Pp} {a b : Int} (h : Conn ps a b) : Conn ps b a := h.elim fun k hk => ⟨k, hk.symm⟩
theorem Conn.tr {ps : List Pp} {a b c : Int} (h : Conn ps a b) (g : Conn ps b c) : Conn ps a c := by
  obtain ⟨k, hk⟩ := h
  obtain ⟨j, hj⟩ := g
  exact ⟨k + j, hk.join hj⟩
theorem Conn.adj {ps : List Pp} {a b : Int} (h : Adj ps a b) : Conn ps a b := ⟨1, b, h, rfl⟩
theorem Conn.step {ps : List Pp} {a b c : Int} (h : Conn ps a b) (g : Adj ps b c) : Conn ps a c := h.tr (Conn.adj g)
theorem conn_ind {ps : List Pp} {a : Int} (P : Int → Prop) (h0 : P a) (hs : ∀ u v, Conn ps a u → P u → Adj ps u v → P v) : ∀ b, Conn ps a b → P b := by
  rintro b ⟨k, hk⟩
  induction k generalizing b with
  | zero => have e : a = b := hk; rw [← e]; exact h0
  | succ k ih =>
    obtain ⟨c, hj, hp⟩ := hk.symm
    exact hs c b ⟨k, hp.symm⟩ (ih c hp.symm) hj.symm
theorem conn_mono {ps qs : List Pp} (h : ∀ e, e ∈ ps → e ∈ qs) {a b : Int} (hc : Conn ps a b) : Conn qs a b :=
  conn_ind (P := fun v => Conn qs a v) (Conn.rf _ _) (fun _ _ _ hu ⟨e, he, hj⟩ => hu.step ⟨e, h e he, hj⟩) b hc

/-- Without a pipe. -/
def Wo (ps : List Pp) (q : Pp) : List Pp := ps.filter fun e => decide (e ≠ q)
theorem mem_Wo {ps : List Pp} {q e : Pp} : e ∈ Wo ps q ↔ e ∈ ps ∧ e ≠ q := by simp [Wo]
/-- An end of it. -/
def Tch (p : Pp) (x : Int) : Prop := p.fr = x ∨ p.to = x
theorem jn_tch {p : Pp} {a b : Int} (h : Jn p a b) : Tch p a ∧ Tch p b := by
  rcases h with ⟨h1, h2⟩ | ⟨h1, h2⟩
  · exact ⟨.inl h1, .inr h2⟩
  · exact ⟨.inr h1, .inl h2⟩
theorem jn_one {p : Pp} {a b x : Int} (h : Jn p a b) (hx : Tch p x) : x = a ∨ x = b := by
  rcases h with ⟨h1, h2⟩ | ⟨h1, h2⟩ <;> rcases hx with hx | hx
  · exact .inl (hx.symm.trans h1)
  · exact .inr (hx.symm.trans h2)
  · exact .inr (hx.symm.trans h2)
  · exact .inl (hx.symm.trans h1)
theorem oth_oth {p : Pp} {x : Int} (hx : Tch p x) : oth p (oth p x) = x := by
  unfold oth Tch at *
  split
  · split at * <;> omega
  · split at * <;> omega
theorem oth_tch {p : Pp} {x : Int} (hx : Tch p x) : Tch p (oth p x) := (jn_tch (oth_jn hx)).2
theorem oth_ne {n : Int} {p : Pp} {x : Int} (hp : PpOk n p) (_hx : Tch p x) : oth p x ≠ x := by
  unfold oth Tch PpOk at *
  split <;> omega

/-- No pipe joins what is connected without it. -/
def Acy (ps : List Pp) : Prop := ∀ p, p ∈ ps → ¬ Conn (Wo ps p) p.fr p.to
theorem Acy.oth {ps : List Pp} (h : Acy ps) {p : Pp} (hp : p ∈ ps) {x : Int} (hx : Tch p x) : ¬ Conn (Wo ps p) (oth p x) x := by
  intro hc
  have hj := oth_jn hx
  rcases hj with ⟨h1, h2⟩ | ⟨h1, h2⟩
  · exact h p hp (by rw [h1, h2]; exact hc.sy)
  · exact h p hp (by rw [h1, h2]; exact hc)

theorem far_conn {ps : List Pp} {p q : Pp} {x y v : Int} (hx : Tch q x ∨ q ∉ ps) (hn : ¬ Conn (Wo ps p) y x) (h : Conn (Wo ps p) y v) : Conn (Wo ps q) y v := by
  refine conn_ind (ps := Wo ps p) (P := fun v => Conn (Wo ps q) y v) (Conn.rf _ _) ?_ v h
  rintro u v hu hq ⟨e, he, hj⟩
  obtain ⟨he1, he2⟩ := mem_Wo.1 he
  refine hq.step ⟨e, mem_Wo.2 ⟨he1, ?_⟩, hj⟩
  rintro rfl
  rcases hx with hx | hx
  · rcases jn_one hj hx with e1 | e1
    · rw [e1] at hn; exact hn hu
    · rw [e1] at hn; exact hn (hu.step ⟨e, he, hj⟩)
  · exact hx he1

/-- What a branch begins with: its node, and the pipe by which the water comes. -/
structure BrOk (n : Nat) (ps : List Pp) (x : Int) (q : Pp) : Prop where
  lo : 1 ≤ x
  hi : x ≤ n
  at_ : Tch q x ∨ q ∉ ps
/-- The pipes that lead on. -/
def kidsL (ps : List Pp) (x : Int) (q : Pp) : List Pp := ps.filter fun e => decide ((e.fr = x ∨ e.to = x) ∧ e ≠ q)
theorem mem_kids {ps : List Pp} {x : Int} {q p : Pp} : p ∈ kidsL ps x q ↔ p ∈ ps ∧ Tch p x ∧ p ≠ q := by
  unfold kidsL Tch
  rw [List.mem_filter, decide_eq_true_iff]
theorem BrOk.kid {n : Nat} {ps : List Pp} {x : Int} {q p : Pp} (_h : BrOk n ps x q) (hg : Good n ps) (hp : p ∈ kidsL ps x q) : BrOk n ps (oth p x) p := by
  obtain ⟨h1, h2, h3⟩ := mem_kids.1 hp
  have ho := oth_in (x := x) (good_pp hg h1)
  exact ⟨ho.1, ho.2, .inl (oth_tch h2)⟩
theorem kid_sub {n : Nat} {ps : List Pp} {x : Int} {q p : Pp} (ha : Acy ps) (h : BrOk n ps x q) (hp : p ∈ kidsL ps x q) {v : Int} (hv : Conn (Wo ps p) (oth p x) v) : Conn (Wo ps q) x v := by
  obtain ⟨h1, h2, h3⟩ := mem_kids.1 hp
  have g := far_conn h.at_ (ha.oth h1 h2) hv
  exact (Conn.adj ⟨p, mem_Wo.2 ⟨h1, h3⟩, oth_jn h2⟩).tr g
theorem kid_all {ps : List Pp} {x : Int} {q : Pp} {v : Int} (hok : ∀ e, e ∈ ps → ∀ a b, Jn e a b → oth e a = b) (hv : Conn (Wo ps q) x v) : v = x ∨ ∃ p, p ∈ kidsL ps x q ∧ Conn (Wo ps p) (oth p x) v := by
  refine conn_ind (ps := Wo ps q) (P := fun v => v = x ∨ ∃ p, p ∈ kidsL ps x q ∧ Conn (Wo ps p) (oth p x) v) (.inl rfl) ?_ v hv
  rintro u v hu hP ⟨e, he, hj⟩
  obtain ⟨he1, he2⟩ := mem_Wo.1 he
  by_cases hvx : v = x
  · exact .inl hvx
  · right
    have hax : Tch e x → u = x := fun ht => by
      rcases jn_one hj ht with h | h
      · exact h.symm
      · exact absurd h.symm hvx
    rcases hP with rfl | ⟨p, hp, hc⟩
    · refine ⟨e, mem_kids.2 ⟨he1, (jn_tch hj).1, he2⟩, ?_⟩
      rw [hok e he1 _ _ hj]
      exact Conn.rf _ _
    · by_cases hep : e = p
      · subst hep
        have hx := hax (mem_kids.1 hp).2.1
        subst hx
        refine ⟨e, hp, ?_⟩
        rw [hok e he1 _ _ hj]
        exact Conn.rf _ _
      · exact ⟨p, hp, hc.step ⟨e, mem_Wo.2 ⟨he1, hep⟩, hj⟩⟩
theorem kid_apart {ps : List Pp} {x : Int} {q p1 p2 : Pp} {v : Int} (ha : Acy ps) (h1 : p1 ∈ kidsL ps x q) (h2 : p2 ∈ kidsL ps x q) (hne : p1 ≠ p2) (hv1 : Conn (Wo ps p1) (oth p1 x) v) (hv2 : Conn (Wo ps p2) (oth p2 x) v) : False := by
  obtain ⟨a1, b1, _⟩ := mem_kids.1 h1
  obtain ⟨a2, b2, _⟩ := mem_kids.1 h2
  have g := far_conn (q := p2) (.inl b2) (ha.oth a1 b1) hv1
  have g2 : Conn (Wo ps p2) x (oth p1 x) := Conn.adj ⟨p1, mem_Wo.2 ⟨a1, hne⟩, oth_jn b1⟩
  exact ha.oth a2 b2 (hv2.tr (g2.tr g).sy)

/-! ### How many nodes are there -/
open Classical in
noncomputable def cB (ps : List Pp) (q : Pp) (x v : Int) : Bool := decide (Conn (Wo ps q) x v)
theorem cB_of {ps : List Pp} {q : Pp} {x v : Int} (h : cB ps q x v = true) : Conn (Wo ps q) x v := by simpa [cB] using h
theorem cB_mk {ps : List Pp} {q : Pp} {x v : Int} (h : Conn (Wo ps q) x v) : cB ps q x v = true := by simpa [cB] using h
theorem cB_no {ps : List Pp} {q : Pp} {x v : Int} (h : ¬ Conn (Wo ps q) x v) : cB ps q x v = false := by simpa [cB] using h
noncomputable def cntB (n : Nat) (ps : List Pp) (x : Int) (q : Pp) : Nat := ((List.range (n + 1)).filter fun v : Nat => cB ps q x (v : Int)).length
theorem filter_less {α : Type} (l : List α) (P Q : α → Bool) (h : ∀ a, P a = true → Q a = true) (a : α) (ha : a ∈ l) (hq : Q a = true) (hp : P a = false) : (l.filter P).length < (l.filter Q).length := by
  have hle : ∀ m : List α, (m.filter P).length ≤ (m.filter Q).length := by
    intro m
    induction m with
    | nil => simp
    | cons b m ih =>
      rw [List.filter_cons, List.filter_cons]
      by_cases hb : P b = true
      · rw [if_pos hb, if_pos (h b hb)]; simp; exact ih
      · rw [if_neg hb]; split <;> first | (simp; omega) | omega
  induction l with
  | nil => simp at ha
  | cons b l ih =>
    rw [List.filter_cons, List.filter_cons]
    by_cases e : a = b
    · subst e
      rw [if_pos hq, if_neg (by simp [hp])]
      have := hle l
      simp; omega
    · have hm : a ∈ l := by
        rcases List.mem_cons.1 ha with h | h
        · exact absurd h e
        · exact h
      have := ih hm
      by_cases hb : P b = true
      · rw [if_pos hb, if_pos (h b hb)]; simp; exact this
      · rw [if_neg hb]; split <;> first | (simp; omega) | omega
theorem cnt_kid {n : Nat} {ps : List Pp} {x : Int} {q p : Pp} (ha : Acy ps) (h : BrOk n ps x q) (hp : p ∈ kidsL ps x q) : cntB n ps (oth p x) p < cntB n ps x q := by
  obtain ⟨h1, h2, h3⟩ := mem_kids.1 hp
  unfold cntB
  have hx0 := h.lo
  have hx1 := h.hi
  have hxx : ((x.toNat : Nat) : Int) = x := Int.toNat_of_nonneg (by omega)
  refine filter_less _ _ _ (fun v hv => ?_) x.toNat (List.mem_range.2 (by omega)) ?_ ?_
  · exact cB_mk (kid_sub ha h hp (cB_of hv))
  · rw [hxx]; exact cB_mk (Conn.rf _ _)
  · rw [hxx]; exact cB_no (ha.oth h1 h2)
theorem cnt_pos {n : Nat} {ps : List Pp} {x : Int} {q : Pp} (h : BrOk n ps x q) : 0 < cntB n ps x q := by
  have hx0 := h.lo
  have hx1 := h.hi
  unfold cntB
  exact List.length_pos_iff.2 (List.ne_nil_of_mem (List.mem_filter.2 ⟨List.mem_range.2 (show x.toNat < n + 1 by omega), by rw [Int.toNat_of_nonneg (by omega)]; exact cB_mk (Conn.rf _ _)⟩))
theorem cnt_le (n : Nat) (ps : List Pp) (x : Int) (q : Pp) : cntB n ps x q ≤ n + 1 := by
  unfold cntB
  exact Nat.le_trans (List.length_filter_le _ _) (by simp)

/-! ### The nodes of a branch -/
def nodesL (ps : List Pp) : Nat → Int → Pp → List Int
  | 0, x, _ => [x]
  | d + 1, x, q => x :: (kidsL ps x q).flatMap fun p => nodesL ps d (oth p x) p
theorem good_oth {n : Nat} {ps : List Pp} (hg : Good n ps) : ∀ e, e ∈ ps → ∀ a b, Jn e a b → oth e a = b := fun _ he _ _ hj => (jn_oth (good_pp hg he) hj).1
theorem nodes_mem {n : Nat} {ps : List Pp} (hg : Good n ps) (ha : Acy ps) : ∀ (d : Nat) (x : Int) (q : Pp), BrOk n ps x q → cntB n ps x q ≤ d → ∀ v, v ∈ nodesL ps d x q ↔ Conn (Wo ps q) x v := by
  intro d
  induction d with
  | zero => intro x q h hc; have := cnt_pos h; omega
  | succ d ih =>
    intro x q h hc v
    show v ∈ x :: (kidsL ps x q).flatMap (fun p => nodesL ps d (oth p x) p) ↔ _
    rw [List.mem_cons, List.mem_flatMap]
    constructor
    · rintro (rfl | ⟨p, hp, hv⟩)
      · exact Conn.rf _ _
      · have h1 := cnt_kid ha h hp
        exact kid_sub ha h hp ((ih _ _ (h.kid hg hp) (by omega) v).1 hv)
    · intro hv
      rcases kid_all (good_oth hg) hv with rfl | ⟨p, hp, hv⟩
      · exact .inl rfl
      · have h1 := cnt_kid ha h hp
        exact .inr ⟨p, hp, (ih _ _ (h.kid hg hp) (by omega) v).2 hv⟩
theorem good_pairs {n : Int} {ps : List Pp} (h : Good n ps) : ps.Pairwise (fun p q => p.id < q.id) := by
  rw [List.pairwise_iff_getElem]
  intro i j hi hj hij
  have key : ∀ m, i < m → m < ps.length → ∀ p q, ps[i]? = some p → ps[m]? = some q → p.id < q.id := by
    intro m
    induction m with
    | zero => intro h1; omega
    | succ m ih =>
      intro h1 h2 p q hp hq
      have h3 := (h.2.2.2 (m + 1) h2 q hq).2
      by_cases e : i = m
      · subst e; exact h3 p (by omega) hp
      · have hmq : ps[m]? = some ps[m] := List.getElem?_eq_getElem (by omega)
        have a := ih (by omega) (by omega) p _ hp hmq
        have b := h3 _ (by omega) hmq
        omega
  exact key j hij hj _ _ (List.getElem?_eq_getElem hi) (List.getElem?_eq_getElem hj)
theorem kids_pair {n : Nat} {ps : List Pp} (hg : Good n ps) (x : Int) (q : Pp) : (kidsL ps x q).Pairwise (· ≠ ·) := by
  unfold kidsL
  exact ((good_pairs hg).sublist List.filter_sublist).imp (fun h e => by rw [e] at h; omega)
theorem nodes_nodup {n : Nat} {ps : List Pp} (hg : Good n ps) (ha : Acy ps) : ∀ (d : Nat) (x : Int) (q : Pp), BrOk n ps x q → cntB n ps x q ≤ d → (nodesL ps d x q).Pairwise (· ≠ ·) := by
  intro d
  induction d with
  | zero => intro x q h hc; have := cnt_pos h; omega
  | succ d ih =>
    intro x q h hc
    show (x :: (kidsL ps x q).flatMap (fun p => nodesL ps d (oth p x) p)).Pairwise (· ≠ ·)
    rw [List.pairwise_cons, List.pairwise_flatMap]
    have hm : ∀ p, p ∈ kidsL ps x q → ∀ v, v ∈ nodesL ps d (oth p x) p ↔ Conn (Wo ps p) (oth p x) v := fun p hp v => by
      have h1 := cnt_kid ha h hp
      exact nodes_mem hg ha d _ _ (h.kid hg hp) (by omega) v
    refine ⟨fun v hv => ?_, fun p hp => ?_, ?_⟩
    · obtain ⟨p, hp, hv⟩ := List.mem_flatMap.1 hv
      rintro rfl
      exact ha.oth (mem_kids.1 hp).1 (mem_kids.1 hp).2.1 ((hm p hp _).1 hv)
    · have h1 := cnt_kid ha h hp
      exact ih _ _ (h.kid hg hp) (by omega)
    · refine (kids_pair hg x q).imp_of_mem ?_
      intro p1 p2 hp1 hp2 hne v hv u hu e
      subst e
      exact kid_apart ha hp1 hp2 hne ((hm p1 hp1 _).1 hv) ((hm p2 hp2 _).1 hu)

/-! ### The branch behind a pipe -/
def fnd (ps : List Pp) (p0 : Pp) : Nat → Int → Pp → Option Int
  | 0, x, q => if q = p0 then some x else none
  | d + 1, x, q => if q = p0 then some x else (kidsL ps x q).findSome? fun p => fnd ps p0 d (oth p x) p
theorem fnd_yes {n : Nat} {ps : List Pp} (hg : Good n ps) (ha : Acy ps) {p0 : Pp} (hp0 : p0 ∈ ps) : ∀ (d : Nat) (x : Int) (q : Pp), BrOk n ps x q → cntB n ps x q ≤ d → (q = p0 ∨ Conn (Wo ps q) x p0.fr) → fnd ps p0 d x q ≠ none := by
  intro d
  induction d with
  | zero => intro x q h hc; have := cnt_pos h; omega
  | succ d ih =>
    intro x q h hc hq
    show (if q = p0 then some x else (kidsL ps x q).findSome? fun p => fnd ps p0 d (oth p x) p) ≠ none
    by_cases e : q = p0
    · rw [if_pos e]; simp
    · rw [if_neg e]
      have hc2 : Conn (Wo ps q) x p0.fr := by
        rcases hq with h | h
        · exact absurd h e
        · exact h
      have hex : ∃ p, p ∈ kidsL ps x q ∧ (p = p0 ∨ Conn (Wo ps p) (oth p x) p0.fr) := by
        by_cases ht : Tch p0 x
        · exact ⟨p0, mem_kids.2 ⟨hp0, ht, fun h => e h.symm⟩, .inl rfl⟩
        · rcases kid_all (good_oth hg) hc2 with h1 | ⟨p, hp, hv⟩
          · exact absurd (.inl h1) ht
          · exact ⟨p, hp, .inr hv⟩
      obtain ⟨p, hp, hv⟩ := hex
      have h1 := cnt_kid ha h hp
      have h2 := ih _ _ (h.kid hg hp) (by omega) hv
      intro hn
      exact h2 (List.findSome?_eq_none_iff.1 hn p hp)
theorem fnd_is {n : Nat} {ps : List Pp} (hg : Good n ps) (ha : Acy ps) {p0 : Pp} {y : Int} : ∀ (d : Nat) (x : Int) (q : Pp), BrOk n ps x q → cntB n ps x q ≤ d → fnd ps p0 d x q = some y →
    (q = p0 ∧ y = x) ∨ (p0 ∈ ps ∧ Tch p0 y ∧ (∀ v, Conn (Wo ps p0) y v → Conn (Wo ps q) x v) ∧ ¬ Conn (Wo ps p0) y x) := by
  intro d
  induction d with
  | zero => intro x q h hc; have := cnt_pos h; omega
  | succ d ih =>
    intro x q h hc hf
    have hf' : (if q = p0 then some x else (kidsL ps x q).findSome? fun p => fnd ps p0 d (oth p x) p) = some y := hf
    by_cases e : q = p0
    · rw [if_pos e] at hf'
      injection hf' with hf'
      exact .inl ⟨e, hf'.symm⟩
    · rw [if_neg e] at hf'
      obtain ⟨p, hp, hpf⟩ := List.exists_of_findSome?_eq_some hf'
      have h1 := cnt_kid ha h hp
      have hm := mem_kids.1 hp
      right
      rcases ih _ _ (h.kid hg hp) (by omega) hpf with ⟨rfl, rfl⟩ | ⟨a, b, c, dd⟩
      · exact ⟨hm.1, oth_tch hm.2.1, fun v hv => kid_sub ha h hp hv, ha.oth hm.1 hm.2.1⟩
      · exact ⟨a, b, fun v hv => kid_sub ha h hp (c v hv), fun hx => ha.oth hm.1 hm.2.1 (c _ hx)⟩
/-- Which nodes lie behind it. -/
theorem behind {ps : List Pp} {p0 : Pp} {s y v : Int} (_hp : p0 ∈ ps) (ht : Tch p0 y) (hs : ¬ Conn (Wo ps p0) y s) (hcs : Conn ps y s) (hcv : Conn ps y v) : ¬ Conn (Wo ps p0) v s ↔ Conn (Wo ps p0) y v := by
  have hq : ∀ v, Conn ps y v → Conn (Wo ps p0) (oth p0 y) v ∨ Conn (Wo ps p0) y v := by
    refine conn_ind (P := fun v => Conn (Wo ps p0) (oth p0 y) v ∨ Conn (Wo ps p0) y v) (.inr (Conn.rf _ _)) ?_
    rintro u v _ hu ⟨e, he, hj⟩
    by_cases hep : e = p0
    · subst hep
      have h1 := jn_one hj ht
      have h2 := jn_one hj (oth_tch ht)
      have h3 := jn_tch hj
      rcases jn_one (oth_jn ht) h3.2 with h | h
      · right; rw [h]; exact Conn.rf _ _
      · left; rw [h]; exact Conn.rf _ _
    · rcases hu with hu | hu
      · exact .inl (hu.step ⟨e, mem_Wo.2 ⟨he, hep⟩, hj⟩)
      · exact .inr (hu.step ⟨e, mem_Wo.2 ⟨he, hep⟩, hj⟩)
  have h1 : Conn (Wo ps p0) (oth p0 y) s := by
    rcases hq s hcs with h | h
    · exact h
    · exact absurd h hs
  constructor
  · intro hn
    rcases hq v hcv with h | h
    · exact absurd (h.sy.tr h1) hn
    · exact h
  · intro hv hn
    exact hs (hv.tr hn)

/-! ### How many parts are there -/
/-- Labels of the parts: f has one value on each; L lists some of the values. -/
theorem labels_low {N : Nat} (qs : List Pp) : ∃ (f : Int → Int) (L : List Int), (∀ p, p ∈ qs → f p.fr = f p.to) ∧ L.Nodup ∧ (∀ l, l ∈ L → ∃ v : Nat, 1 ≤ v ∧ v ≤ N ∧ f v = l) ∧ N ≤ L.length + qs.length := by
  induction qs with
  | nil =>
    refine ⟨id, (List.range N).map (fun v => ((v + 1 : Nat) : Int)), by simp, ?_, ?_, by simp⟩
    · unfold List.Nodup
      rw [List.pairwise_map]
      exact List.nodup_range.imp (fun h e => h (by omega))
    · intro l hl
      obtain ⟨v, hv, rfl⟩ := List.mem_map.1 hl
      have := List.mem_range.1 hv
      exact ⟨v + 1, by omega, by omega, rfl⟩
  | cons p qs ih =>
    obtain ⟨f, L, h1, h2, h3, h4⟩ := ih
    refine ⟨fun v => if f v = f p.to then f p.fr else f v, L.erase (f p.to), ?_, h2.erase _, ?_, ?_⟩
    · intro e he
      rcases List.mem_cons.1 he with rfl | he
      · simp
      · simp only [h1 e he]
    · intro l hl
      have hl2 := (h2.mem_erase_iff).1 hl
      obtain ⟨v, a, b, rfl⟩ := h3 l hl2.2
      exact ⟨v, a, b, if_neg hl2.1⟩
    · have := List.length_erase_le (a := f p.to) (l := L)
      have h5 : L.length ≤ (L.erase (f p.to)).length + 1 := by rw [List.length_erase]; split <;> omega
      simp; omega
theorem label_conn {qs : List Pp} {f : Int → Int} (h : ∀ p, p ∈ qs → f p.fr = f p.to) {a b : Int} (hc : Conn qs a b) : f a = f b :=
  conn_ind (P := fun v => f a = f v) rfl (fun _ _ _ hu ⟨e, he, hj⟩ => by
    rcases hj with ⟨h1, h2⟩ | ⟨h1, h2⟩
    · rw [hu, ← h1, ← h2]; exact h e he
    · rw [hu, ← h1, ← h2]; exact (h e he).symm) b hc
theorem conn_need {N : Nat} {qs : List Pp} (_hN : 1 ≤ N) (hc : ∀ v : Nat, 1 ≤ v → v ≤ N → Conn qs 1 v) : N ≤ qs.length + 1 := by
  obtain ⟨f, L, h1, h2, h3, h4⟩ := labels_low (N := N) qs
  have hL : L.length ≤ 1 := by
    match L, h2, h3 with
    | [], _, _ => simp
    | [_], _, _ => simp
    | a :: b :: L, h2, h3 =>
      obtain ⟨u, u1, u2, u3⟩ := h3 a (by simp)
      obtain ⟨v, v1, v2, v3⟩ := h3 b (by simp)
      have e1 := label_conn h1 (hc u u1 u2)
      have e2 := label_conn h1 (hc v v1 v2)
      have : a = b := by rw [← u3, ← v3, ← e1, ← e2]
      subst this
      simp [List.nodup_cons] at h2
  omega
/-- Connected with one pipe fewer than nodes: none can be left out. -/
theorem tree_acy {N : Nat} {ps : List Pp} (hg : Good N ps) (hl : ps.length + 1 = N) (hc : ∀ v : Nat, 1 ≤ v → v ≤ N → Conn ps 1 v) : Acy ps := by
  intro p hp hcon
  have hlt : (Wo ps p).length < ps.length := by
    have h1 := filter_less ps (fun e => decide (e ≠ p)) (fun _ => true) (fun _ _ => rfl) p hp rfl (by simp)
    have h2 : ps.filter (fun _ => true) = ps := List.filter_eq_self.2 (by simp)
    rw [h2] at h1
    exact h1
  have hall : ∀ v : Nat, 1 ≤ v → v ≤ N → Conn (Wo ps p) 1 v := by
    intro v h1 h2
    refine conn_ind (P := fun v => Conn (Wo ps p) 1 v) (Conn.rf _ _) ?_ _ (hc v h1 h2)
    rintro u v _ hu ⟨e, he, hj⟩
    by_cases hep : e = p
    · subst hep
      rcases hj with ⟨a, b⟩ | ⟨a, b⟩
      · rw [← a] at hu; rw [← b]; exact hu.tr hcon
      · rw [← a] at hu; rw [← b]; exact hu.tr hcon.sy
    · exact hu.step ⟨e, mem_Wo.2 ⟨he, hep⟩, hj⟩
  have h1 := hg.1
  have := conn_need (by omega) hall
  omega
end Go.Proofs.Ytgjogjmfpbinfaa.P2

namespace Go.Proofs.Ytgjogjmfpbinfaa.S2
open Go.RowKit P2

def QOwn (w : World) (B : Nat) (v : Value) (q : List Int) : Prop :=
  ∃ g off cap cur, v = .slice (some ⟨g, off, none⟩) q.length cap ∧ B ≤ g ∧ w.heap[g]? = some (.cells cur 3 (0, 0)) ∧ q.length ≤ cap ∧ cap ≤ maxLen ∧ off + cap ≤ cur.size ∧ ∀ i, i < q.length → cur[off + i]? = some (iv (q.getD i 0))
def qblk : Value → Nat
  | .slice (some a) _ _ => a.block
  | _ => 0

theorem getD_snoc (q : List Int) (x : Int) (j : Nat) (h : j < q.length) : (q ++ [x]).getD j 0 = q.getD j 0 := by
  simp [List.getD, List.getElem?_append_left h]

theorem QOwn.lt {w : World} {B : Nat} {v : Value} {q : List Int} (h : QOwn w B v q) : B ≤ qblk v ∧ qblk v < w.heap.size := by
  obtain ⟨g, off, cap, cur, rfl, hB, hg, _⟩ := h
  exact ⟨hB, (Array.getElem?_eq_some_iff.1 hg).1⟩
theorem QOwn.kept {w w' : World} {B : Nat} {v : Value} {q : List Int} (h : QOwn w B v q) (hb : w'.heap[qblk v]? = w.heap[qblk v]?) : QOwn w' B v q := by
  obtain ⟨g, off, cap, cur, rfl, hB, hg, rest⟩ := h
  exact ⟨g, off, cap, cur, rfl, hB, hb.trans hg, rest⟩
theorem QOwn.alloc {w : World} {B : Nat} {v : Value} {q : List Int} (h : QOwn w B v q) (o : Obj) : QOwn (w.alloc o) B v q := h.kept (Below.heap_alloc w o _ h.lt.2)
theorem QOwn.below {w w' : World} {B : Nat} {v : Value} {q : List Int} (h : QOwn w B v q) (hb : Below w.heap.size w w') : QOwn w' B v q := h.kept (hb.block _ h.lt.2)
theorem QOwn.start (w : World) (B : Nat) (x : Int) (hB : B ≤ w.heap.size) : QOwn (w.alloc (.cells #[iv x] 3)) B (.slice (some ⟨w.heap.size, 0, none⟩) 1 1) [x] :=
  ⟨w.heap.size, 0, 1, #[iv x], rfl, hB, heap_alloc_new w _, Nat.le_refl _, by simp [maxLen], by simp, fun i hi => by
    have e : i = 0 := by simpa using hi
    subst e; rfl⟩
theorem QOwn.head {w : World} {B : Nat} {v : Value} {x : Int} {q : List Int} (h : QOwn w B v (x :: q)) :
    ∃ g off cap, v = .slice (some ⟨g, off, none⟩) (q.length + 1) cap ∧ q.length + 1 ≤ cap ∧ cap ≤ maxLen ∧ g < w.heap.size ∧ w.cell? ⟨g, off, none⟩ = some (iv x) ∧
      QOwn w B (.slice (if cap = 1 then some ⟨g, off, none⟩ else some ⟨g, off + 1, none⟩) q.length (cap - 1)) q := by
  obtain ⟨g, off, cap, cur, rfl, hB, hg, hl, hm, hs, hc⟩ := h
  simp only [List.length_cons] at hl hc ⊢
  refine ⟨g, off, cap, rfl, hl, hm, (Array.getElem?_eq_some_iff.1 hg).1, ?_, ?_⟩
  · rw [cell_of_row w g off cur 3 (0, 0) hg]
    have := hc 0 (by omega)
    simpa using this
  · by_cases h1 : cap = 1
    · rw [if_pos h1]
      exact ⟨g, off, cap - 1, cur, rfl, hB, hg, by omega, by omega, by omega, fun i hi => by omega⟩
    · rw [if_neg h1]
      refine ⟨g, off + 1, cap - 1, cur, rfl, hB, hg, by omega, by omega, by omega, fun i hi => ?_⟩
      have := hc (i + 1) (by omega)
      rw [show off + 1 + i = off + (i + 1) by omega, this]
      simp

section
variable {P : Program} (w : World)
theorem run_append_q (t ty : TypeId) (i : TypeInfo) (ht : P.underlying t = some (.slice 3)) (hi : P.info? 3 = some i) (hz : i.zero = some (.int .i64 0)) (hsize : i.size = 1) (hby : i.bytes = 8)
    (B : Nat) (v : Value) (q : List Int) (hq : QOwn w B v q) (a : Addr) (c : Nat) (x : Int) (hx : w.cell? a = some (iv x)) (hn : q.length + 1 ≤ 1048576) (hB : B ≤ w.heap.size) :
    ∃ v' w', (Builtin.append_ #[t, t] ty #[v, .slice (some a) 1 c]).run P w = .ok v' w' ∧ QOwn w' B v' (q ++ [x]) ∧ w.grownBy w' (some (qblk v)) ∧ (qblk v' = qblk v ∨ qblk v' = w.heap.size) := by
  obtain ⟨g, off, cap, cur, rfl, hBg, hg, hl, hm, hs, hc⟩ := hq
  have hgl := (Array.getElem?_eq_some_iff.1 hg).1
  have hadd : a.add 0 = a := by simp [Addr.add]
  have hnew : ∀ j u, [iv x][j]? = some u → w.cell? (a.add j) = some u := by
    intro j u hu
    have hj : j = 0 := by
      have := (List.getElem?_eq_some_iff.1 hu).1
      simpa using this
    subst hj
    rw [hadd, hx]
    simpa using hu
  have h1 : ∀ u ∈ [iv x], u.oneCell' = true := by intro u hu; simp at hu; subst hu; rfl
  by_cases hroom : q.length + 1 ≤ cap
  · have hcell : ∀ j, j < [iv x].length → (w.cell? ⟨g, off + q.length * i.size + j, none⟩).isSome = true := by
      intro j hj
      have hj0 : j = 0 := by simpa using hj
      subst hj0
      rw [hsize, cell_of_row w g _ cur 3 (0, 0) hg]
      simp
      omega
    have hfr : ∀ j, j < [iv x].length → w.frozen? ⟨g, off + q.length * i.size + j, none⟩ = false := by
      intro j _
      simp [World.frozen?, hg]
    have hr := run_append_room_cells (P := P) w t ty 3 i ht hi g off q.length cap a 1 c [iv x] (by rw [hsize]; rfl) hnew h1 hroom hcell hfr
    rw [hsize, Nat.mul_one] at hr
    have hset : w.setCells g (off + q.length) [iv x] = w.setCell ⟨g, off + q.length, none⟩ (iv x) := rfl
    rw [hset] at hr
    refine ⟨_, _, hr, ⟨g, off, cap, cur.setIfInBounds (off + q.length) (iv x), by simp, hBg, ?_, by simp; omega, hm, by simpa using hs, fun j hj => ?_⟩, ?_, .inl rfl⟩
    · simp [World.setCell, Array.getElem?_modify, hg]
    · rw [Array.getElem?_setIfInBounds]
      by_cases e : j = q.length
      · subst e
        rw [if_pos rfl, if_pos (by omega)]
        simp [List.getD]
      · have hjl : j < q.length := by simp at hj; omega
        rw [if_neg (by omega), hc j hjl, getD_snoc q x j hjl]
    · exact ⟨rfl, rfl, rfl, by simp, fun k hk hne => Below.heap_setCell _ _ _ _ (by intro e; exact hne (by rw [e]; rfl))⟩
  · have holds : ∀ j u, (q.map iv)[j]? = some u → w.cell? ((⟨g, off, none⟩ : Addr).add j) = some u := by
      intro j u hu
      have hj : j < q.length := by
        have := (List.getElem?_eq_some_iff.1 hu).1
        simpa using this
      have ea : (⟨g, off, none⟩ : Addr).add j = ⟨g, off + j, none⟩ := by unfold Addr.add; split <;> simp_all
      rw [ea, cell_of_row w g _ cur 3 (0, 0) hg, hc j hj]
      simp [List.getD, hj] at hu ⊢
      exact hu
    have hr := run_append_grow (P := P) w t ty 3 i _ ht hi hz ⟨g, off, none⟩ q.length cap (q.map iv) (by rw [hsize]; simp) holds a 1 c [iv x] (by rw [hsize]; rfl) hnew (by omega) (by omega) (growslice_fits (by omega) (by rw [hby]; omega))
    refine ⟨_, _, hr, ⟨w.heap.size, 0, _, _, by simp; rfl, hB, heap_alloc_new w.drew _, by simp; exact grownCap_ge _ _ _ _, grownCap_le_maxLen _ _ _ _ (by simp only [maxLen]; omega), ?_, fun j hj => ?_⟩, ⟨rfl, rfl, rfl, by simp, fun k hk _ => Below.heap_alloc w.drew _ k hk⟩, .inr rfl⟩
    · have hge := grownCap_ge w (q.length + 1) cap 3
      have hz1 : (Value.int .i64 0).cells.size = 1 := rfl
      simp only [Array.size_append, List.size_toArray, size_zeroCells, hz1, List.length_map, List.length_singleton]
      omega
    · have hj' : j < (q ++ [x]).length := hj
      have hj1 : j < q.length + 1 := by simpa using hj'
      rw [Nat.zero_add, Array.getElem?_append_left (by simp; omega)]
      rw [Array.getElem?_append]
      simp only [List.size_toArray, List.length_map, List.getElem?_toArray]
      by_cases e : j < q.length
      · rw [if_pos e, getD_snoc q x j e]
        simp [List.getD, e]
      · have e2 : j = q.length := by omega
        subst e2
        rw [if_neg e]
        simp [List.getD]

theorem wpList_append_q {ops : Array Oper} {rest : List Oper} {o : Oper} {ac : Act} {Q : Exit → Act → World → Prop} (hgd : o.guard = none) (s y : Operand) (t : TypeId)
    (ho : o.op = .call { callee := .builtin .append, args := #[s, y], argTypes := #[t, t] })
    (i : TypeInfo) (ht : P.underlying t = some (.slice 3)) (hi : P.info? 3 = some i) (hz : i.zero = some (.int .i64 0)) (hsize : i.size = 1) (hby : i.bytes = 8)
    (B : Nat) (v : Value) (q : List Int) (hs : ac.eval s = v) (hq : QOwn w B v q) (a : Addr) (c : Nat) (x : Int) (hy : ac.eval y = .slice (some a) 1 c) (hx : w.cell? a = some (iv x)) (hn : q.length + 1 ≤ 1048576) (hB : B ≤ w.heap.size)
    (h : ∀ v' w', QOwn w' B v' (q ++ [x]) → w.grownBy w' (some (qblk v)) → (qblk v' = qblk v ∨ qblk v' = w.heap.size) → wpList P ops Q rest (ac.put o.dst v') w') : wpList P ops Q (o :: rest) ac w :=
  wpList_plain hgd fun K hK => by
    obtain ⟨v', w', hrun, h2, h3, h4⟩ := run_append_q (P := P) w t o.type i ht hi hz hsize hby B v q hq a c x hx hn hB
    unfold Oper.wp execOp
    simp only [ho, resolve, invoke, builtin, Sem.run_bind, Sem.run_pure, Result.andThen_ok, List.map_toArray, List.map_cons, List.map_nil, hs, hy, hrun]
    exact hK _ _ (h v' w' h2 h3 h4)
end
end Go.Proofs.Ytgjogjmfpbinfaa.S2

namespace Go.Proofs.Ytgjogjmfpbinfaa.S2
open Go.RowKit P2

def hasB (l : List Int) (x : Int) : Bool := decide (x ∈ l)
theorem take_getD (l : List Int) (k : Nat) (h : k < l.length) : l.take (k + 1) = l.take k ++ [l.getD k 0] := by
  rw [List.take_succ_eq_append_getElem h]; simp [List.getD, h]
theorem getD_mem (l : List Int) (k : Nat) (h : k < l.length) : l.getD k 0 ∈ l := by
  have e : l.getD k 0 = l[k] := by simp [List.getD, h]
  rw [e]; exact List.getElem_mem h

theorem has_any (A : Option Addr) (cap : Nat) (l : List Int) (x : Int) (w : World) (h : IAt w A l) (hn : l.length ≤ 1048576) :
    Calls Try.prog 176 #[.slice A l.length cap, .int .i64 x] w fun e w' => e = .returned (.bool (hasB l x)) ∧ w' = w := by
  have HA := Lib.hid h
  clear h
  go_enter Try.func176, Try.ntmps176
  go_wp2
  go_loop [5] (fun i => ∃ k : Nat, k ≤ l.length ∧ i = .int .i64 k ∧ Hid (x ∉ l.take k)) (fun i => l.length - (intOf i).toNat)
  case atStart => exact ⟨0, Nat.zero_le _, rfl, Lib.hid (by simp)⟩
  case round =>
    obtain ⟨k, hk, rfl, hn'⟩ := hrel
    by_cases hlt : k < l.length
    · obtain ⟨b, off, hA, hbl, h0⟩ := HA.out.at_ hlt
      subst hA
      have hmem := getD_mem l k hlt
      have htk := take_getD l k hlt
      generalize l.getD k 0 = y at *
      by_cases he : y = x
      · have hE : (y == x) = true := by simpa using he
        have hfin := Lib.hid (show hasB l x = true from decide_eq_true (by rw [← he]; exact hmem))
        clear he htk hmem
        go_wp2
        go_ret
        exact ⟨by rw [hfin.out]; rfl, rfl⟩
      · have hE : (y == x) = false := by simpa using he
        have hst := Lib.hid (show x ∉ l.take (k + 1) by
          rw [htk]
          intro hm
          rcases List.mem_append.1 hm with hm | hm
          · exact hn'.out hm
          · exact he (List.mem_singleton.1 hm).symm)
        clear he htk hmem
        go_wp2
        go_round
        case rel => exact ⟨k + 1, by omega, by go_num, hst⟩
        case measure => simp [intOf]; omega
    · have hfin := Lib.hid (show hasB l x = false from decide_eq_false (by have := hn'.out; rwa [List.take_of_length_le (by omega)] at this))
      go_wp2
      go_ret
      exact ⟨by rw [hfin.out]; rfl, rfl⟩

/-- What a number put in its place leaves. -/
def PutOk (l : List Int) (x : Int) (r : List Int) : Prop := (l.Pairwise (· < ·) → r.Pairwise (· < ·)) ∧ (∀ y, y ∈ r ↔ y ∈ l ∨ y = x) ∧ (x ∉ l → r.length = l.length + 1) ∧ (x ∈ l → r = l)
theorem put_same (l : List Int) (x : Int) (h : x ∈ l) : PutOk l x l :=
  ⟨id, fun y => ⟨.inl, fun hy => by rcases hy with hy | hy; exact hy; rw [hy]; exact h⟩, fun hn => absurd h hn, fun _ => rfl⟩
theorem lt_take {l : List Int} {x : Int} {k : Nat} (h : ∀ i, i < k → i < l.length → l.getD i 0 < x) : ∀ y ∈ l.take k, y < x := by
  intro y hy
  obtain ⟨i, hi⟩ := List.getElem?_of_mem hy
  rw [List.getElem?_take] at hi
  split at hi
  · rename_i hik
    have hl : i < l.length := (List.getElem?_eq_some_iff.1 hi).1
    have := h i hik hl
    simp [List.getD, hi] at this
    exact this
  · cases hi
theorem put_new (l : List Int) (x : Int) (k : Nat) (hk : k ≤ l.length) (h : ∀ i, i < k → i < l.length → l.getD i 0 < x) (hx : k < l.length → l.getD k 0 ≠ x ∧ ¬ l.getD k 0 < x) (hs : l.Pairwise (· < ·)) : PutOk l x (l.take k ++ [x] ++ l.drop k) := by
  have ht := lt_take h
  have hd : ∀ y ∈ l.drop k, x < y := by
    intro y hy
    by_cases hkl : k < l.length
    · have e : l.drop k = l.getD k 0 :: l.drop (k + 1) := by rw [List.drop_eq_getElem_cons hkl]; simp [List.getD, hkl]
      have hp : (l.drop k).Pairwise (· < ·) := hs.sublist (List.drop_sublist k l)
      rw [e] at hp hy
      have h1 := hx hkl
      rcases List.mem_cons.1 hy with hy | hy
      · rw [hy]; omega
      · have := (List.pairwise_cons.1 hp).1 y hy
        omega
    · rw [List.drop_eq_nil_of_le (by omega)] at hy
      cases hy
  have hno : x ∉ l := by
    intro hm
    rw [← List.take_append_drop k l] at hm
    rcases List.mem_append.1 hm with hm | hm
    · have := ht x hm; omega
    · have := hd x hm; omega
  refine ⟨fun _ => ?_, fun y => ?_, fun _ => by simp; omega, fun hm => absurd hm hno⟩
  · rw [List.append_assoc, List.pairwise_append]
    refine ⟨hs.sublist (List.take_sublist k l), ?_, fun a ha b hb => ?_⟩
    · exact List.pairwise_cons.2 ⟨hd, hs.sublist (List.drop_sublist k l)⟩
    · have h1 := ht a ha
      rcases List.mem_cons.1 hb with hb | hb
      · rw [hb]; exact h1
      · have := hd b hb; omega
  · conv => rhs; rw [← List.take_append_drop k l]
    simp only [List.mem_append, List.mem_singleton]
    constructor
    · rintro ((h1 | h1) | h1)
      · exact .inl (.inl h1)
      · exact .inr h1
      · exact .inl (.inr h1)
    · rintro ((h1 | h1) | h1)
      · exact .inl (.inl h1)
      · exact .inr h1
      · exact .inl (.inr h1)

/-- append, as one step of a region that draws its order. -/
theorem step_append_row {P : Program} (w : World) {ops : Array Oper} {o : Oper} {a : Act} {K : Act → World → Prop} {Q : Exit → Act → World → Prop} {E : Prop} (hgd : o.guard = none) (s x : Operand) (t : TypeId)
    (ho : o.op = .call { callee := .builtin .append, args := #[s, x], argTypes := #[t, t] })
    (i : TypeInfo) (ht : P.underlying t = some (.slice 3)) (hi : P.info? 3 = some i) (hz : i.zero = some (.int .i64 0)) (hsize : i.size = 1) (hby : i.bytes = 8)
    (B : Nat) (v : Value) (l : List Int) (hs : a.eval s = v) (hown : IOwn w B v l) (hv : v ≠ .slice none 0 0)
    (ad : Addr) (m c : Nat) (news : List Int) (hx : a.eval x = .slice (some ad) m c) (hl : news.length = m) (hnews : ∀ j, j < news.length → w.cell? (ad.add j) = some (iv (news.getD j 0)))
    (hn : l.length + m ≤ 1048576) (hbase : B ≤ w.heap.size)
    (h : ∀ v' w', IOwn w' B v' (l ++ news) → w.grownBy w' v.ownBlock → v' ≠ .slice none 0 0 → K (a.put o.dst v') w') :
    if Region.wanted o (yielded ops a.tmps) = true then Oper.wp P o a w K Q else E := by
  have hw : Region.wanted o (yielded ops a.tmps) = true := by simp [Region.wanted, hgd]
  rw [if_pos hw]
  refine wp_append_own w s x t ho B 3 i (.int .i64 0) 1 8 ht hi hz hsize hby rfl (by omega) v l.length (l.map iv) hs hown ad m c (news.map iv) hx (by simp [hl]) (fun j u hu => ?_) (fun u hu => ?_) (by simp only [maxLen]; omega) (by omega) hbase fun v' w' h2 h3 h4 => h v' w' ?_ h3 (fun e => hv (h4.1 e).1)
  · have hj : j < news.length := by
      have := (List.getElem?_eq_some_iff.1 hu).1
      simpa using this
    rw [hnews j hj]
    simp [List.getD, hj] at hu ⊢
    exact hu
  · obtain ⟨y, _, rfl⟩ := List.mem_map.1 hu
    rfl
  · unfold IOwn
    rw [List.length_append, List.map_append, hl]
    exact h2
end Go.Proofs.Ytgjogjmfpbinfaa.S2

namespace Go.Proofs.Ytgjogjmfpbinfaa.S2
open Go.RowKit P2

theorem cell_take {w W : World} {b off k : Nat} {l : List Int} (hb : Below w.heap.size w W) (hc : Hid (∀ i, i < l.length → w.cell? ⟨b, off + i, none⟩ = some (iv (l.getD i 0)))) (hl : b < w.heap.size) (j : Nat) (hj : j < (l.take k).length) : W.cell? ((⟨b, off, none⟩ : Addr).add j) = some (iv ((l.take k).getD j 0)) := by
  have e : (⟨b, off, none⟩ : Addr).add j = ⟨b, off + j, none⟩ := by unfold Addr.add; split <;> simp_all
  have hj2 : j < k ∧ j < l.length := by simp at hj; omega
  rw [e, hb.cell (p := ⟨b, off + j, none⟩) hl, hc.out j hj2.2]
  simp [List.getD, hj2.1]
theorem cell_drop {w W : World} {b off o2 k : Nat} {l : List Int} (hb : Below w.heap.size w W) (hc : Hid (∀ i, i < l.length → w.cell? ⟨b, off + i, none⟩ = some (iv (l.getD i 0)))) (hl : b < w.heap.size) (ho : o2 = off + k ∨ l.length ≤ k) (j : Nat) (hj : j < (l.drop k).length) : W.cell? ((⟨b, o2, none⟩ : Addr).add j) = some (iv ((l.drop k).getD j 0)) := by
  have hj2 : k + j < l.length := by simp at hj; omega
  have ho2 : o2 = off + k := by rcases ho with h | h; exact h; omega
  subst ho2
  have e : (⟨b, off + k, none⟩ : Addr).add j = ⟨b, off + (k + j), none⟩ := by unfold Addr.add; split <;> simp_all [Nat.add_assoc]
  rw [e, hb.cell (p := ⟨b, off + (k + j), none⟩) hl, hc.out (k + j) hj2]
  simp [List.getD, List.getElem?_drop]
theorem own_empty1 (w : World) (P : Obj) : IOwn (((w.alloc P).alloc (.cells #[] 3)).drew) w.heap.size (.slice (some ⟨w.heap.size + 1, 0, none⟩) 0 0) [] := by
  have h := own_empty (w.alloc P) w.heap.size (by simp)
  rw [show (w.alloc P).heap.size = w.heap.size + 1 by simp] at h
  exact h
theorem cell_one (w : World) (x : Value) (t : TypeId) : (w.alloc (.cells #[x] t)).cell? ((⟨w.heap.size, 0, none⟩ : Addr).add 0) = some x := by
  show (w.alloc (.cells #[x] t)).cell? ⟨w.heap.size, 0, none⟩ = some x
  rw [World.cell?_alloc_new]; rfl
theorem cell_new1 (w : World) (P : Obj) (x : Value) (t : TypeId) : ((w.alloc P).alloc (.cells #[x] t)).drew.cell? ⟨w.heap.size + 1, 0, none⟩ = some x := by
  show ((w.alloc P).alloc (.cells #[x] t)).cell? ⟨w.heap.size + 1, 0, none⟩ = some x
  rw [World.cell?_alloc_at _ _ _ _ (by simp)]; rfl
theorem cell_new0 (w : World) (x : Value) (t : TypeId) (P : Obj) : ((w.alloc (.cells #[x] t)).alloc P).drew.cell? ⟨w.heap.size, 0, none⟩ = some x := by
  show ((w.alloc (.cells #[x] t)).alloc P).cell? ⟨w.heap.size, 0, none⟩ = some x
  rw [World.cell?_alloc_lt _ _ _ (by simp), World.cell?_alloc_new]; rfl

/-- It returns a slice that reads as the list with the number put in its place. -/
def PutPost (b : Nat) (l : List Int) (x : Int) (w : World) (e : Ending) (w' : World) : Prop :=
  ∃ r g o c, e = .returned (.slice (some ⟨g, o, none⟩) r.length c) ∧ r.length ≤ c ∧ c ≤ maxLen ∧ PutOk l x r ∧ g < w'.heap.size ∧ (∀ i, i < r.length → w'.cell? ⟨g, o + i, none⟩ = some (iv (r.getD i 0))) ∧ Below w.heap.size w w' ∧ (w.heap.size ≤ g ∧ o = 0 ∧ IOwn w' w.heap.size (.slice (some ⟨g, o, none⟩) r.length c) r ∨ x ∈ l ∧ g = b)
theorem put_end {b : Nat} {w w4 : World} {v : Value} {l : List Int} {x : Int} {k : Nat} (ho : IOwn w4 w.heap.size v ([] ++ l.take k ++ [x] ++ l.drop k)) (hv : v ≠ .slice none 0 0) (hp : PutOk l x (l.take k ++ [x] ++ l.drop k)) (hb : Below w.heap.size w w4) : PutPost b l x w (.returned v) w4 := by
  rw [List.nil_append] at ho
  obtain ⟨g, cap, rfl, hg⟩ := own_slice ho hv
  have hc : (l.take k ++ [x] ++ l.drop k).length ≤ cap ∧ cap ≤ maxLen := by
    rcases ho.2 with ⟨h, _⟩ | ⟨g', c', cur, h, _, _, hle, hm, _⟩
    · cases h
    · injection h with _ _ h3
      rw [h3]; exact ⟨hle, hm⟩
  refine ⟨_, g, 0, cap, rfl, hc.1, hc.2, hp, (World.ownsRow.lt ho g rfl).2, fun i hi => ?_, hb, .inl ⟨hg, rfl, ho⟩⟩
  rcases ho.iat with h | ⟨b, off, h, _, h2⟩
  · rw [h] at hi; simp at hi
  · simp only [Option.some.injEq, Addr.mk.injEq, and_true] at h
    obtain ⟨rfl, rfl⟩ := h
    exact h2 i hi

set_option maxHeartbeats 8000000 in
set_option maxRecDepth 100000 in
theorem put_any (b off c : Nat) (l : List Int) (x : Int) (w : World) (hbl : b < w.heap.size) (hcell : ∀ i, i < l.length → w.cell? ⟨b, off + i, none⟩ = some (iv (l.getD i 0))) (hlc : l.length ≤ c) (hcm : c ≤ maxLen) (hn : l.length ≤ 1000) (hs : l.Pairwise (· < ·)) :
    Calls Try.prog 218 #[.slice (some ⟨b, off, none⟩) l.length c, .int .i64 x] w (PutPost b l x w) := by
  have HC := Lib.hid hcell
  have HS := Lib.hid hs
  have HCM := Lib.hid hcm
  have hcm' : (c : Int) ≤ 9223372036854775807 := by unfold maxLen at hcm; omega
  obtain ⟨i0, hi, hz0, hz1, hz2⟩ := info_parts infoI
  clear hcell hs hcm
  go_enter Try.func218, Try.ntmps218
  go_wp2
  go_loop [5] (fun i => ∃ k : Nat, k ≤ l.length ∧ i = .int .i64 k ∧ Hid (∀ i, i < k → i < l.length → l.getD i 0 < x)) (fun i => l.length - (intOf i).toNat)
  case atStart => exact ⟨0, Nat.zero_le _, rfl, Lib.hid (fun i h => absurd h (by omega))⟩
  case round =>
    obtain ⟨k, hk, rfl, hlo⟩ := hrel
    have hk0 : (0 : Int) ≤ (k : Int) := by omega
    have hkc : (k : Int) ≤ (c : Int) := by omega
    have hkc' : k ≤ c := by omega
    by_cases hlt : k < l.length
    · have h0 := HC.out k hlt
      have hkl : (k : Int) < (l.length : Int) := by omega
      have HNE := Lib.hid (fun h1 h2 => put_new l x k hk hlo.out (fun _ => ⟨h1, h2⟩) HS.out)
      have HST := Lib.hid (show l.getD k 0 < x → ∀ i, i < k + 1 → i < l.length → l.getD i 0 < x from fun h i hi hl => by
        by_cases e : i = k
        · rw [e]; exact h
        · exact hlo.out i (by omega) hl)
      have HMEM := Lib.hid (getD_mem l k hlt)
      generalize l.getD k 0 = y at *
      by_cases hy : y < x
      · have hst := Lib.hid (HST.out hy)
        go_wp2
        go_round
        case rel => exact ⟨k + 1, by omega, by go_num, hst⟩
        case measure => simp [intOf]; omega
      · by_cases hyx : y = x
        · have hE : (y == x) = true := by simpa using hyx
          have hm := Lib.hid (show x ∈ l by rw [← hyx]; exact HMEM.out)
          clear hyx
          go_wp2
          go_ret
          exact ⟨l, b, off, c, rfl, hlc, HCM.out, put_same l x hm.out, hbl, HC.out, Below.refl _ _, .inr ⟨hm.out, rfl⟩⟩
        · have hE : (y == x) = false := by simpa using hyx
          have HP := Lib.hid (HNE.out hyx hy)
          have hck : ¬ c = k := by omega
          clear hyx
          go_wp2
          refine wp_region_held_drew (S := fun _ => True) (by kernel_rfl) trivial (fun hHeld => ?_)
          refine wpAnyH_take (i := 1) (v := .slice (some ⟨b, off, none⟩) l.length c) rfl (by kernel_rfl) (by kernel_rfl) (by kernel_rfl) (fun _ _ _ h => h) (Or.inl ⟨by rfl, ?_⟩) (by assumption) ?_
          · (intro w hSw; go_simp)
          simp only [Act.put, List.setIfInBounds_toArray]
          refine wpAnyH_take (i := 2) (v := .int .i64 (k : Int)) rfl (by kernel_rfl) (by kernel_rfl) (by kernel_rfl) (fun _ _ _ h => h) (Or.inl ⟨by rfl, ?_⟩) (by assumption) ?_
          · (intro w hSw; go_simp)
          simp only [Act.put]
          refine wpAnyH_take (i := 3) (v := .slice (some ⟨b, off, none⟩) k c) rfl (by kernel_rfl) (by kernel_rfl) (by kernel_rfl) (fun _ _ _ h => h) (Or.inl ⟨by rfl, ?_⟩) (by assumption) ?_
          · (intro w hSw; go_simp)
          simp only [Act.put]
          refine wpAnyH_take (i := 5) (v := .int .i64 x) rfl (by kernel_rfl) (by kernel_rfl) (by kernel_rfl) (fun _ _ _ h => h) (Or.inl ⟨by rfl, ?_⟩) (by assumption) ?_
          · (intro w hSw; go_simp)
          simp only [Act.put]
          refine wpAnyH_take (i := 8) (v := .slice (some ⟨b, off, none⟩) l.length c) rfl (by kernel_rfl) (by kernel_rfl) (by kernel_rfl) (fun _ _ _ h => h) (Or.inl ⟨by rfl, ?_⟩) (by assumption) ?_
          · (intro w hSw; go_simp)
          simp only [Act.put]
          refine wpAnyH_take (i := 9) (v := .int .i64 (k : Int)) rfl (by kernel_rfl) (by kernel_rfl) (by kernel_rfl) (fun _ _ _ h => h) (Or.inl ⟨by rfl, ?_⟩) (by assumption) ?_
          · (intro w hSw; go_simp)
          simp only [Act.put]
          refine wpAnyH_take (i := 10) (v := .slice (some ⟨b, off + k, none⟩) (l.length - k) (c - k)) rfl (by kernel_rfl) (by kernel_rfl) (by kernel_rfl) (fun _ _ _ h => h) (Or.inl ⟨by rfl, ?_⟩) (by assumption) ?_
          · (intro w hSw; go_simp)
          simp only [Act.put]
          refine wpAnyH_ready (rs := [0, 6]) (by kernel_rfl) (by simp) ?_
          refine AllReadyH.cons rfl (fun K hK => ?_) (AllReadyH.cons rfl (fun K hK => ?_) AllReadyH.nil)
          · go_simp
            refine hK.out _ _ trivial (fun hHeld => ?_)
            clear hK K
            refine wpAnyH_ready (rs := [4, 6]) (by kernel_rfl) (by simp) ?_
            refine AllReadyH.cons rfl (fun K hK => ?_) (AllReadyH.cons rfl (fun K hK => ?_) AllReadyH.nil)
            · have hBW := Lib.hid (((Below.refl w.heap.size w).alloc (Nat.le_refl _) (.cells #[] 3)).drew)
              refine step_append_row _ (by rfl) _ _ _ (by rfl) i0 Try.underlying34 hi hz0 hz1 hz2 w.heap.size (.slice (some ⟨w.heap.size, 0, none⟩) 0 0) ([]) (by simp [go_sem]) (own_empty w w.heap.size (Nat.le_refl _)) (by simp) (⟨b, off, none⟩) (k) (c) (l.take k) (by simp [go_sem]) (by simp; omega) (fun j hj => cell_take hBW.out HC hbl j hj) (by simp; omega) (hBW.out.size) ?_
              intro v1 w2 hO1 hg1 hn1
              refine hK.out _ _ trivial (fun hHeld => ?_)
              clear hK K
              simp only [Act.put]
              have hB2 := Lib.hid (hBW.out.grown hg1 hBW.out.size (fun q hq => by simp [Value.ownBlock] at hq; omega))
              refine wpAnyH_ready (rs := [6]) (by kernel_rfl) (by simp) ?_
              refine AllReadyH.cons rfl (fun K hK => ?_) AllReadyH.nil
              go_simp
              refine hK.out _ _ trivial (fun hHeld => ?_)
              clear hK K
              refine wpAnyH_ready (rs := [7]) (by kernel_rfl) (by simp) ?_
              refine AllReadyH.cons rfl (fun K hK => ?_) AllReadyH.nil
              refine step_append_row _ (by rfl) _ _ _ (by rfl) i0 Try.underlying34 hi hz0 hz1 hz2 w.heap.size (v1) ([] ++ l.take k) (by simp [go_sem]) (hO1.on ((Below.refl w2.heap.size w2).alloc (Nat.le_refl _) (.cells #[iv x] 3))) (hn1) (⟨w2.heap.size, 0, none⟩) (1) (1) ([x]) (by simp [go_sem]) (rfl) (fun j hj => by (have e : j = 0 := by simpa using hj); subst e; exact cell_one w2 (iv x) 3) (by simp; omega) (by have := hB2.out.size; simp; omega) ?_
              intro v2 w3 hO2 hg2 hn2
              refine hK.out _ _ trivial (fun hHeld => ?_)
              clear hK K
              simp only [Act.put]
              have hB3 := Lib.hid ((hB2.out.alloc hB2.out.size (.cells #[iv x] 3)).grown hg2 (by have := hB2.out.size; simp; omega) (fun q hq => (World.ownsRow.lt hO1 q hq).1))
              refine wpAnyH_ready (rs := [11]) (by kernel_rfl) (by simp) ?_
              refine AllReadyH.cons rfl (fun K hK => ?_) AllReadyH.nil
              refine step_append_row _ (by rfl) _ _ _ (by rfl) i0 Try.underlying34 hi hz0 hz1 hz2 w.heap.size (v2) ([] ++ l.take k ++ [x]) (by simp [go_sem]) (hO2) (hn2) (⟨b, off + k, none⟩) (l.length - k) (c - k) (l.drop k) (by simp [go_sem]) (by simp) (fun j hj => cell_drop hB3.out HC hbl (.inl rfl) j hj) (by simp; omega) (hB3.out.size) ?_
              intro v3 w4 hO3 hg3 hn3
              refine hK.out _ _ trivial (fun hHeld => ?_)
              clear hK K
              simp only [Act.put]
              have hB4 := Lib.hid (hB3.out.grown hg3 hB3.out.size (fun q hq => (World.ownsRow.lt hO2 q hq).1))
              refine wpAnyH_ready (rs := [12]) (by kernel_rfl) (by simp) ?_
              refine AllReadyH.cons rfl (fun K hK => ?_) AllReadyH.nil
              go_simp
              refine hK.out _ _ trivial (fun hHeld => ?_)
              clear hK K
              refine wpAnyH_done (by kernel_rfl) ?_ _
              go_wp2
              go_ret
              exact put_end hO3 hn3 HP.out hB4.out
            · go_simp
              refine hK.out _ _ trivial (fun hHeld => ?_)
              clear hK K
              refine wpAnyH_ready (rs := [4]) (by kernel_rfl) (by simp) ?_
              have hBW := Lib.hid ((((Below.refl w.heap.size w).alloc (Nat.le_refl _) (.cells #[] 3)).alloc (by simp) (.cells #[iv x] 3)).drew)
              refine AllReadyH.cons rfl (fun K hK => ?_) AllReadyH.nil
              refine step_append_row _ (by rfl) _ _ _ (by rfl) i0 Try.underlying34 hi hz0 hz1 hz2 w.heap.size (.slice (some ⟨w.heap.size, 0, none⟩) 0 0) ([]) (by simp [go_sem]) ((own_empty w w.heap.size (Nat.le_refl _)).on (((Below.refl _ _).alloc (Nat.le_refl _) (.cells #[iv x] 3)).drew)) (by simp) (⟨b, off, none⟩) (k) (c) (l.take k) (by simp [go_sem]) (by simp; omega) (fun j hj => cell_take hBW.out HC hbl j hj) (by simp; omega) (hBW.out.size) ?_
              intro v1 w2 hO1 hg1 hn1
              refine hK.out _ _ trivial (fun hHeld => ?_)
              clear hK K
              simp only [Act.put]
              have hB2 := Lib.hid (hBW.out.grown hg1 hBW.out.size (fun q hq => by simp [Value.ownBlock] at hq; omega))
              refine wpAnyH_ready (rs := [7]) (by kernel_rfl) (by simp) ?_
              refine AllReadyH.cons rfl (fun K hK => ?_) AllReadyH.nil
              refine step_append_row _ (by rfl) _ _ _ (by rfl) i0 Try.underlying34 hi hz0 hz1 hz2 w.heap.size (v1) ([] ++ l.take k) (by simp [go_sem]) (hO1) (hn1) (⟨w.heap.size + 1, 0, none⟩) (1) (1) ([x]) (by simp [go_sem]) (rfl) (fun j hj => by (have e : j = 0 := by simpa using hj); subst e; exact (hg1.cell_far ⟨w.heap.size + 1, 0, none⟩ (by simp) (by simp [Value.ownBlock])).trans (cell_new1 w (.cells #[] 3) (iv x) 3)) (by simp; omega) (by have := hB2.out.size; simp; omega) ?_
              intro v2 w3 hO2 hg2 hn2
              refine hK.out _ _ trivial (fun hHeld => ?_)
              clear hK K
              simp only [Act.put]
              have hB3 := Lib.hid (hB2.out.grown hg2 (by have := hB2.out.size; simp; omega) (fun q hq => (World.ownsRow.lt hO1 q hq).1))
              refine wpAnyH_ready (rs := [11]) (by kernel_rfl) (by simp) ?_
              refine AllReadyH.cons rfl (fun K hK => ?_) AllReadyH.nil
              refine step_append_row _ (by rfl) _ _ _ (by rfl) i0 Try.underlying34 hi hz0 hz1 hz2 w.heap.size (v2) ([] ++ l.take k ++ [x]) (by simp [go_sem]) (hO2) (hn2) (⟨b, off + k, none⟩) (l.length - k) (c - k) (l.drop k) (by simp [go_sem]) (by simp) (fun j hj => cell_drop hB3.out HC hbl (.inl rfl) j hj) (by simp; omega) (hB3.out.size) ?_
              intro v3 w4 hO3 hg3 hn3
              refine hK.out _ _ trivial (fun hHeld => ?_)
              clear hK K
              simp only [Act.put]
              have hB4 := Lib.hid (hB3.out.grown hg3 hB3.out.size (fun q hq => (World.ownsRow.lt hO2 q hq).1))
              refine wpAnyH_ready (rs := [12]) (by kernel_rfl) (by simp) ?_
              refine AllReadyH.cons rfl (fun K hK => ?_) AllReadyH.nil
              go_simp
              refine hK.out _ _ trivial (fun hHeld => ?_)
              clear hK K
              refine wpAnyH_done (by kernel_rfl) ?_ _
              go_wp2
              go_ret
              exact put_end hO3 hn3 HP.out hB4.out
          · go_simp
            refine hK.out _ _ trivial (fun hHeld => ?_)
            clear hK K
            refine wpAnyH_ready (rs := [0]) (by kernel_rfl) (by simp) ?_
            refine AllReadyH.cons rfl (fun K hK => ?_) AllReadyH.nil
            go_simp
            refine hK.out _ _ trivial (fun hHeld => ?_)
            clear hK K
            refine wpAnyH_ready (rs := [4]) (by kernel_rfl) (by simp) ?_
            have hBW := Lib.hid ((((Below.refl w.heap.size w).alloc (Nat.le_refl _) (.cells #[iv x] 3)).alloc (by simp) (.cells #[] 3)).drew)
            refine AllReadyH.cons rfl (fun K hK => ?_) AllReadyH.nil
            refine step_append_row _ (by rfl) _ _ _ (by rfl) i0 Try.underlying34 hi hz0 hz1 hz2 w.heap.size (.slice (some ⟨w.heap.size + 1, 0, none⟩) 0 0) ([]) (by simp [go_sem]) (own_empty1 w (.cells #[iv x] 3)) (by simp) (⟨b, off, none⟩) (k) (c) (l.take k) (by simp [go_sem]) (by simp; omega) (fun j hj => cell_take hBW.out HC hbl j hj) (by simp; omega) (hBW.out.size) ?_
            intro v1 w2 hO1 hg1 hn1
            refine hK.out _ _ trivial (fun hHeld => ?_)
            clear hK K
            simp only [Act.put]
            have hB2 := Lib.hid (hBW.out.grown hg1 hBW.out.size (fun q hq => by simp [Value.ownBlock] at hq; omega))
            refine wpAnyH_ready (rs := [7]) (by kernel_rfl) (by simp) ?_
            refine AllReadyH.cons rfl (fun K hK => ?_) AllReadyH.nil
            refine step_append_row _ (by rfl) _ _ _ (by rfl) i0 Try.underlying34 hi hz0 hz1 hz2 w.heap.size (v1) ([] ++ l.take k) (by simp [go_sem]) (hO1) (hn1) (⟨w.heap.size, 0, none⟩) (1) (1) ([x]) (by simp [go_sem]) (rfl) (fun j hj => by (have e : j = 0 := by simpa using hj); subst e; exact (hg1.cell_far ⟨w.heap.size, 0, none⟩ (by simp; omega) (by simp [Value.ownBlock])).trans (cell_new0 w (iv x) 3 (.cells #[] 3))) (by simp; omega) (by have := hB2.out.size; simp; omega) ?_
            intro v2 w3 hO2 hg2 hn2
            refine hK.out _ _ trivial (fun hHeld => ?_)
            clear hK K
            simp only [Act.put]
            have hB3 := Lib.hid (hB2.out.grown hg2 (by have := hB2.out.size; simp; omega) (fun q hq => (World.ownsRow.lt hO1 q hq).1))
            refine wpAnyH_ready (rs := [11]) (by kernel_rfl) (by simp) ?_
            refine AllReadyH.cons rfl (fun K hK => ?_) AllReadyH.nil
            refine step_append_row _ (by rfl) _ _ _ (by rfl) i0 Try.underlying34 hi hz0 hz1 hz2 w.heap.size (v2) ([] ++ l.take k ++ [x]) (by simp [go_sem]) (hO2) (hn2) (⟨b, off + k, none⟩) (l.length - k) (c - k) (l.drop k) (by simp [go_sem]) (by simp) (fun j hj => cell_drop hB3.out HC hbl (.inl rfl) j hj) (by simp; omega) (hB3.out.size) ?_
            intro v3 w4 hO3 hg3 hn3
            refine hK.out _ _ trivial (fun hHeld => ?_)
            clear hK K
            simp only [Act.put]
            have hB4 := Lib.hid (hB3.out.grown hg3 hB3.out.size (fun q hq => (World.ownsRow.lt hO2 q hq).1))
            refine wpAnyH_ready (rs := [12]) (by kernel_rfl) (by simp) ?_
            refine AllReadyH.cons rfl (fun K hK => ?_) AllReadyH.nil
            go_simp
            refine hK.out _ _ trivial (fun hHeld => ?_)
            clear hK K
            refine wpAnyH_done (by kernel_rfl) ?_ _
            go_wp2
            go_ret
            exact put_end hO3 hn3 HP.out hB4.out
    · have HP := Lib.hid (put_new l x k hk hlo.out (fun h => absurd h hlt) HS.out)
      by_cases hck : c = k
      · subst hck
        go_wp2
        refine wp_region_held_drew (S := fun _ => True) (by kernel_rfl) trivial (fun hHeld => ?_)
        refine wpAnyH_take (i := 1) (v := .slice (some ⟨b, off, none⟩) l.length c) rfl (by kernel_rfl) (by kernel_rfl) (by kernel_rfl) (fun _ _ _ h => h) (Or.inl ⟨by rfl, ?_⟩) (by assumption) ?_
        · (intro w hSw; go_simp)
        simp only [Act.put, List.setIfInBounds_toArray]
        refine wpAnyH_take (i := 2) (v := .int .i64 (c : Int)) rfl (by kernel_rfl) (by kernel_rfl) (by kernel_rfl) (fun _ _ _ h => h) (Or.inl ⟨by rfl, ?_⟩) (by assumption) ?_
        · (intro w hSw; go_simp)
        simp only [Act.put]
        refine wpAnyH_take (i := 3) (v := .slice (some ⟨b, off, none⟩) c c) rfl (by kernel_rfl) (by kernel_rfl) (by kernel_rfl) (fun _ _ _ h => h) (Or.inl ⟨by rfl, ?_⟩) (by assumption) ?_
        · (intro w hSw; go_simp)
        simp only [Act.put]
        refine wpAnyH_take (i := 5) (v := .int .i64 x) rfl (by kernel_rfl) (by kernel_rfl) (by kernel_rfl) (fun _ _ _ h => h) (Or.inl ⟨by rfl, ?_⟩) (by assumption) ?_
        · (intro w hSw; go_simp)
        simp only [Act.put]
        refine wpAnyH_take (i := 8) (v := .slice (some ⟨b, off, none⟩) l.length c) rfl (by kernel_rfl) (by kernel_rfl) (by kernel_rfl) (fun _ _ _ h => h) (Or.inl ⟨by rfl, ?_⟩) (by assumption) ?_
        · (intro w hSw; go_simp)
        simp only [Act.put]
        refine wpAnyH_take (i := 9) (v := .int .i64 (c : Int)) rfl (by kernel_rfl) (by kernel_rfl) (by kernel_rfl) (fun _ _ _ h => h) (Or.inl ⟨by rfl, ?_⟩) (by assumption) ?_
        · (intro w hSw; go_simp)
        simp only [Act.put]
        refine wpAnyH_take (i := 10) (v := .slice (some ⟨b, off, none⟩) (l.length - c) (c - c)) rfl (by kernel_rfl) (by kernel_rfl) (by kernel_rfl) (fun _ _ _ h => h) (Or.inl ⟨by rfl, ?_⟩) (by assumption) ?_
        · (intro w hSw; go_simp)
        simp only [Act.put]
        refine wpAnyH_ready (rs := [0, 6]) (by kernel_rfl) (by simp) ?_
        refine AllReadyH.cons rfl (fun K hK => ?_) (AllReadyH.cons rfl (fun K hK => ?_) AllReadyH.nil)
        · go_simp
          refine hK.out _ _ trivial (fun hHeld => ?_)
          clear hK K
          refine wpAnyH_ready (rs := [4, 6]) (by kernel_rfl) (by simp) ?_
          refine AllReadyH.cons rfl (fun K hK => ?_) (AllReadyH.cons rfl (fun K hK => ?_) AllReadyH.nil)
          · have hBW := Lib.hid (((Below.refl w.heap.size w).alloc (Nat.le_refl _) (.cells #[] 3)).drew)
            refine step_append_row _ (by rfl) _ _ _ (by rfl) i0 Try.underlying34 hi hz0 hz1 hz2 w.heap.size (.slice (some ⟨w.heap.size, 0, none⟩) 0 0) ([]) (by simp [go_sem]) (own_empty w w.heap.size (Nat.le_refl _)) (by simp) (⟨b, off, none⟩) (c) (c) (l.take c) (by simp [go_sem]) (by simp; omega) (fun j hj => cell_take hBW.out HC hbl j hj) (by simp; omega) (hBW.out.size) ?_
            intro v1 w2 hO1 hg1 hn1
            refine hK.out _ _ trivial (fun hHeld => ?_)
            clear hK K
            simp only [Act.put]
            have hB2 := Lib.hid (hBW.out.grown hg1 hBW.out.size (fun q hq => by simp [Value.ownBlock] at hq; omega))
            refine wpAnyH_ready (rs := [6]) (by kernel_rfl) (by simp) ?_
            refine AllReadyH.cons rfl (fun K hK => ?_) AllReadyH.nil
            go_simp
            refine hK.out _ _ trivial (fun hHeld => ?_)
            clear hK K
            refine wpAnyH_ready (rs := [7]) (by kernel_rfl) (by simp) ?_
            refine AllReadyH.cons rfl (fun K hK => ?_) AllReadyH.nil
            refine step_append_row _ (by rfl) _ _ _ (by rfl) i0 Try.underlying34 hi hz0 hz1 hz2 w.heap.size (v1) ([] ++ l.take c) (by simp [go_sem]) (hO1.on ((Below.refl w2.heap.size w2).alloc (Nat.le_refl _) (.cells #[iv x] 3))) (hn1) (⟨w2.heap.size, 0, none⟩) (1) (1) ([x]) (by simp [go_sem]) (rfl) (fun j hj => by (have e : j = 0 := by simpa using hj); subst e; exact cell_one w2 (iv x) 3) (by simp; omega) (by have := hB2.out.size; simp; omega) ?_
            intro v2 w3 hO2 hg2 hn2
            refine hK.out _ _ trivial (fun hHeld => ?_)
            clear hK K
            simp only [Act.put]
            have hB3 := Lib.hid ((hB2.out.alloc hB2.out.size (.cells #[iv x] 3)).grown hg2 (by have := hB2.out.size; simp; omega) (fun q hq => (World.ownsRow.lt hO1 q hq).1))
            refine wpAnyH_ready (rs := [11]) (by kernel_rfl) (by simp) ?_
            refine AllReadyH.cons rfl (fun K hK => ?_) AllReadyH.nil
            refine step_append_row _ (by rfl) _ _ _ (by rfl) i0 Try.underlying34 hi hz0 hz1 hz2 w.heap.size (v2) ([] ++ l.take c ++ [x]) (by simp [go_sem]) (hO2) (hn2) (⟨b, off, none⟩) (l.length - c) (c - c) (l.drop c) (by simp [go_sem]; omega) (by simp) (fun j hj => cell_drop hB3.out HC hbl (.inr (by omega)) j hj) (by simp; omega) (hB3.out.size) ?_
            intro v3 w4 hO3 hg3 hn3
            refine hK.out _ _ trivial (fun hHeld => ?_)
            clear hK K
            simp only [Act.put]
            have hB4 := Lib.hid (hB3.out.grown hg3 hB3.out.size (fun q hq => (World.ownsRow.lt hO2 q hq).1))
            refine wpAnyH_ready (rs := [12]) (by kernel_rfl) (by simp) ?_
            refine AllReadyH.cons rfl (fun K hK => ?_) AllReadyH.nil
            go_simp
            refine hK.out _ _ trivial (fun hHeld => ?_)
            clear hK K
            refine wpAnyH_done (by kernel_rfl) ?_ _
            go_wp2
            go_ret
            exact put_end hO3 hn3 HP.out hB4.out
          · go_simp
            refine hK.out _ _ trivial (fun hHeld => ?_)
            clear hK K
            refine wpAnyH_ready (rs := [4]) (by kernel_rfl) (by simp) ?_
            have hBW := Lib.hid ((((Below.refl w.heap.size w).alloc (Nat.le_refl _) (.cells #[] 3)).alloc (by simp) (.cells #[iv x] 3)).drew)
            refine AllReadyH.cons rfl (fun K hK => ?_) AllReadyH.nil
            refine step_append_row _ (by rfl) _ _ _ (by rfl) i0 Try.underlying34 hi hz0 hz1 hz2 w.heap.size (.slice (some ⟨w.heap.size, 0, none⟩) 0 0) ([]) (by simp [go_sem]) ((own_empty w w.heap.size (Nat.le_refl _)).on (((Below.refl _ _).alloc (Nat.le_refl _) (.cells #[iv x] 3)).drew)) (by simp) (⟨b, off, none⟩) (c) (c) (l.take c) (by simp [go_sem]) (by simp; omega) (fun j hj => cell_take hBW.out HC hbl j hj) (by simp; omega) (hBW.out.size) ?_
            intro v1 w2 hO1 hg1 hn1
            refine hK.out _ _ trivial (fun hHeld => ?_)
            clear hK K
            simp only [Act.put]
            have hB2 := Lib.hid (hBW.out.grown hg1 hBW.out.size (fun q hq => by simp [Value.ownBlock] at hq; omega))
            refine wpAnyH_ready (rs := [7]) (by kernel_rfl) (by simp) ?_
            refine AllReadyH.cons rfl (fun K hK => ?_) AllReadyH.nil
            refine step_append_row _ (by rfl) _ _ _ (by rfl) i0 Try.underlying34 hi hz0 hz1 hz2 w.heap.size (v1) ([] ++ l.take c) (by simp [go_sem]) (hO1) (hn1) (⟨w.heap.size + 1, 0, none⟩) (1) (1) ([x]) (by simp [go_sem]) (rfl) (fun j hj => by (have e : j = 0 := by simpa using hj); subst e; exact (hg1.cell_far ⟨w.heap.size + 1, 0, none⟩ (by simp) (by simp [Value.ownBlock])).trans (cell_new1 w (.cells #[] 3) (iv x) 3)) (by simp; omega) (by have := hB2.out.size; simp; omega) ?_
            intro v2 w3 hO2 hg2 hn2
            refine hK.out _ _ trivial (fun hHeld => ?_)
            clear hK K
            simp only [Act.put]
            have hB3 := Lib.hid (hB2.out.grown hg2 (by have := hB2.out.size; simp; omega) (fun q hq => (World.ownsRow.lt hO1 q hq).1))
            refine wpAnyH_ready (rs := [11]) (by kernel_rfl) (by simp) ?_
            refine AllReadyH.cons rfl (fun K hK => ?_) AllReadyH.nil
            refine step_append_row _ (by rfl) _ _ _ (by rfl) i0 Try.underlying34 hi hz0 hz1 hz2 w.heap.size (v2) ([] ++ l.take c ++ [x]) (by simp [go_sem]) (hO2) (hn2) (⟨b, off, none⟩) (l.length - c) (c - c) (l.drop c) (by simp [go_sem]; omega) (by simp) (fun j hj => cell_drop hB3.out HC hbl (.inr (by omega)) j hj) (by simp; omega) (hB3.out.size) ?_
            intro v3 w4 hO3 hg3 hn3
            refine hK.out _ _ trivial (fun hHeld => ?_)
            clear hK K
            simp only [Act.put]
            have hB4 := Lib.hid (hB3.out.grown hg3 hB3.out.size (fun q hq => (World.ownsRow.lt hO2 q hq).1))
            refine wpAnyH_ready (rs := [12]) (by kernel_rfl) (by simp) ?_
            refine AllReadyH.cons rfl (fun K hK => ?_) AllReadyH.nil
            go_simp
            refine hK.out _ _ trivial (fun hHeld => ?_)
            clear hK K
            refine wpAnyH_done (by kernel_rfl) ?_ _
            go_wp2
            go_ret
            exact put_end hO3 hn3 HP.out hB4.out
        · go_simp
          refine hK.out _ _ trivial (fun hHeld => ?_)
          clear hK K
          refine wpAnyH_ready (rs := [0]) (by kernel_rfl) (by simp) ?_
          refine AllReadyH.cons rfl (fun K hK => ?_) AllReadyH.nil
          go_simp
          refine hK.out _ _ trivial (fun hHeld => ?_)
          clear hK K
          refine wpAnyH_ready (rs := [4]) (by kernel_rfl) (by simp) ?_
          have hBW := Lib.hid ((((Below.refl w.heap.size w).alloc (Nat.le_refl _) (.cells #[iv x] 3)).alloc (by simp) (.cells #[] 3)).drew)
          refine AllReadyH.cons rfl (fun K hK => ?_) AllReadyH.nil
          refine step_append_row _ (by rfl) _ _ _ (by rfl) i0 Try.underlying34 hi hz0 hz1 hz2 w.heap.size (.slice (some ⟨w.heap.size + 1, 0, none⟩) 0 0) ([]) (by simp [go_sem]) (own_empty1 w (.cells #[iv x] 3)) (by simp) (⟨b, off, none⟩) (c) (c) (l.take c) (by simp [go_sem]) (by simp; omega) (fun j hj => cell_take hBW.out HC hbl j hj) (by simp; omega) (hBW.out.size) ?_
          intro v1 w2 hO1 hg1 hn1
          refine hK.out _ _ trivial (fun hHeld => ?_)
          clear hK K
          simp only [Act.put]
          have hB2 := Lib.hid (hBW.out.grown hg1 hBW.out.size (fun q hq => by simp [Value.ownBlock] at hq; omega))
          refine wpAnyH_ready (rs := [7]) (by kernel_rfl) (by simp) ?_
          refine AllReadyH.cons rfl (fun K hK => ?_) AllReadyH.nil
          refine step_append_row _ (by rfl) _ _ _ (by rfl) i0 Try.underlying34 hi hz0 hz1 hz2 w.heap.size (v1) ([] ++ l.take c) (by simp [go_sem]) (hO1) (hn1) (⟨w.heap.size, 0, none⟩) (1) (1) ([x]) (by simp [go_sem]) (rfl) (fun j hj => by (have e : j = 0 := by simpa using hj); subst e; exact (hg1.cell_far ⟨w.heap.size, 0, none⟩ (by simp; omega) (by simp [Value.ownBlock])).trans (cell_new0 w (iv x) 3 (.cells #[] 3))) (by simp; omega) (by have := hB2.out.size; simp; omega) ?_
          intro v2 w3 hO2 hg2 hn2
          refine hK.out _ _ trivial (fun hHeld => ?_)
          clear hK K
          simp only [Act.put]
          have hB3 := Lib.hid (hB2.out.grown hg2 (by have := hB2.out.size; simp; omega) (fun q hq => (World.ownsRow.lt hO1 q hq).1))
          refine wpAnyH_ready (rs := [11]) (by kernel_rfl) (by simp) ?_
          refine AllReadyH.cons rfl (fun K hK => ?_) AllReadyH.nil
          refine step_append_row _ (by rfl) _ _ _ (by rfl) i0 Try.underlying34 hi hz0 hz1 hz2 w.heap.size (v2) ([] ++ l.take c ++ [x]) (by simp [go_sem]) (hO2) (hn2) (⟨b, off, none⟩) (l.length - c) (c - c) (l.drop c) (by simp [go_sem]; omega) (by simp) (fun j hj => cell_drop hB3.out HC hbl (.inr (by omega)) j hj) (by simp; omega) (hB3.out.size) ?_
          intro v3 w4 hO3 hg3 hn3
          refine hK.out _ _ trivial (fun hHeld => ?_)
          clear hK K
          simp only [Act.put]
          have hB4 := Lib.hid (hB3.out.grown hg3 hB3.out.size (fun q hq => (World.ownsRow.lt hO2 q hq).1))
          refine wpAnyH_ready (rs := [12]) (by kernel_rfl) (by simp) ?_
          refine AllReadyH.cons rfl (fun K hK => ?_) AllReadyH.nil
          go_simp
          refine hK.out _ _ trivial (fun hHeld => ?_)
          clear hK K
          refine wpAnyH_done (by kernel_rfl) ?_ _
          go_wp2
          go_ret
          exact put_end hO3 hn3 HP.out hB4.out
      · go_wp2
        refine wp_region_held_drew (S := fun _ => True) (by kernel_rfl) trivial (fun hHeld => ?_)
        refine wpAnyH_take (i := 1) (v := .slice (some ⟨b, off, none⟩) l.length c) rfl (by kernel_rfl) (by kernel_rfl) (by kernel_rfl) (fun _ _ _ h => h) (Or.inl ⟨by rfl, ?_⟩) (by assumption) ?_
        · (intro w hSw; go_simp)
        simp only [Act.put, List.setIfInBounds_toArray]
        refine wpAnyH_take (i := 2) (v := .int .i64 (k : Int)) rfl (by kernel_rfl) (by kernel_rfl) (by kernel_rfl) (fun _ _ _ h => h) (Or.inl ⟨by rfl, ?_⟩) (by assumption) ?_
        · (intro w hSw; go_simp)
        simp only [Act.put]
        refine wpAnyH_take (i := 3) (v := .slice (some ⟨b, off, none⟩) k c) rfl (by kernel_rfl) (by kernel_rfl) (by kernel_rfl) (fun _ _ _ h => h) (Or.inl ⟨by rfl, ?_⟩) (by assumption) ?_
        · (intro w hSw; go_simp)
        simp only [Act.put]
        refine wpAnyH_take (i := 5) (v := .int .i64 x) rfl (by kernel_rfl) (by kernel_rfl) (by kernel_rfl) (fun _ _ _ h => h) (Or.inl ⟨by rfl, ?_⟩) (by assumption) ?_
        · (intro w hSw; go_simp)
        simp only [Act.put]
        refine wpAnyH_take (i := 8) (v := .slice (some ⟨b, off, none⟩) l.length c) rfl (by kernel_rfl) (by kernel_rfl) (by kernel_rfl) (fun _ _ _ h => h) (Or.inl ⟨by rfl, ?_⟩) (by assumption) ?_
        · (intro w hSw; go_simp)
        simp only [Act.put]
        refine wpAnyH_take (i := 9) (v := .int .i64 (k : Int)) rfl (by kernel_rfl) (by kernel_rfl) (by kernel_rfl) (fun _ _ _ h => h) (Or.inl ⟨by rfl, ?_⟩) (by assumption) ?_
        · (intro w hSw; go_simp)
        simp only [Act.put]
        refine wpAnyH_take (i := 10) (v := .slice (some ⟨b, off + k, none⟩) (l.length - k) (c - k)) rfl (by kernel_rfl) (by kernel_rfl) (by kernel_rfl) (fun _ _ _ h => h) (Or.inl ⟨by rfl, ?_⟩) (by assumption) ?_
        · (intro w hSw; go_simp)
        simp only [Act.put]
        refine wpAnyH_ready (rs := [0, 6]) (by kernel_rfl) (by simp) ?_
        refine AllReadyH.cons rfl (fun K hK => ?_) (AllReadyH.cons rfl (fun K hK => ?_) AllReadyH.nil)
        · go_simp
          refine hK.out _ _ trivial (fun hHeld => ?_)
          clear hK K
          refine wpAnyH_ready (rs := [4, 6]) (by kernel_rfl) (by simp) ?_
          refine AllReadyH.cons rfl (fun K hK => ?_) (AllReadyH.cons rfl (fun K hK => ?_) AllReadyH.nil)
          · have hBW := Lib.hid (((Below.refl w.heap.size w).alloc (Nat.le_refl _) (.cells #[] 3)).drew)
            refine step_append_row _ (by rfl) _ _ _ (by rfl) i0 Try.underlying34 hi hz0 hz1 hz2 w.heap.size (.slice (some ⟨w.heap.size, 0, none⟩) 0 0) ([]) (by simp [go_sem]) (own_empty w w.heap.size (Nat.le_refl _)) (by simp) (⟨b, off, none⟩) (k) (c) (l.take k) (by simp [go_sem]) (by simp; omega) (fun j hj => cell_take hBW.out HC hbl j hj) (by simp; omega) (hBW.out.size) ?_
            intro v1 w2 hO1 hg1 hn1
            refine hK.out _ _ trivial (fun hHeld => ?_)
            clear hK K
            simp only [Act.put]
            have hB2 := Lib.hid (hBW.out.grown hg1 hBW.out.size (fun q hq => by simp [Value.ownBlock] at hq; omega))
            refine wpAnyH_ready (rs := [6]) (by kernel_rfl) (by simp) ?_
            refine AllReadyH.cons rfl (fun K hK => ?_) AllReadyH.nil
            go_simp
            refine hK.out _ _ trivial (fun hHeld => ?_)
            clear hK K
            refine wpAnyH_ready (rs := [7]) (by kernel_rfl) (by simp) ?_
            refine AllReadyH.cons rfl (fun K hK => ?_) AllReadyH.nil
            refine step_append_row _ (by rfl) _ _ _ (by rfl) i0 Try.underlying34 hi hz0 hz1 hz2 w.heap.size (v1) ([] ++ l.take k) (by simp [go_sem]) (hO1.on ((Below.refl w2.heap.size w2).alloc (Nat.le_refl _) (.cells #[iv x] 3))) (hn1) (⟨w2.heap.size, 0, none⟩) (1) (1) ([x]) (by simp [go_sem]) (rfl) (fun j hj => by (have e : j = 0 := by simpa using hj); subst e; exact cell_one w2 (iv x) 3) (by simp; omega) (by have := hB2.out.size; simp; omega) ?_
            intro v2 w3 hO2 hg2 hn2
            refine hK.out _ _ trivial (fun hHeld => ?_)
            clear hK K
            simp only [Act.put]
            have hB3 := Lib.hid ((hB2.out.alloc hB2.out.size (.cells #[iv x] 3)).grown hg2 (by have := hB2.out.size; simp; omega) (fun q hq => (World.ownsRow.lt hO1 q hq).1))
            refine wpAnyH_ready (rs := [11]) (by kernel_rfl) (by simp) ?_
            refine AllReadyH.cons rfl (fun K hK => ?_) AllReadyH.nil
            refine step_append_row _ (by rfl) _ _ _ (by rfl) i0 Try.underlying34 hi hz0 hz1 hz2 w.heap.size (v2) ([] ++ l.take k ++ [x]) (by simp [go_sem]) (hO2) (hn2) (⟨b, off + k, none⟩) (l.length - k) (c - k) (l.drop k) (by simp [go_sem]) (by simp) (fun j hj => cell_drop hB3.out HC hbl (.inl rfl) j hj) (by simp; omega) (hB3.out.size) ?_
            intro v3 w4 hO3 hg3 hn3
            refine hK.out _ _ trivial (fun hHeld => ?_)
            clear hK K
            simp only [Act.put]
            have hB4 := Lib.hid (hB3.out.grown hg3 hB3.out.size (fun q hq => (World.ownsRow.lt hO2 q hq).1))
            refine wpAnyH_ready (rs := [12]) (by kernel_rfl) (by simp) ?_
            refine AllReadyH.cons rfl (fun K hK => ?_) AllReadyH.nil
            go_simp
            refine hK.out _ _ trivial (fun hHeld => ?_)
            clear hK K
            refine wpAnyH_done (by kernel_rfl) ?_ _
            go_wp2
            go_ret
            exact put_end hO3 hn3 HP.out hB4.out
          · go_simp
            refine hK.out _ _ trivial (fun hHeld => ?_)
            clear hK K
            refine wpAnyH_ready (rs := [4]) (by kernel_rfl) (by simp) ?_
            have hBW := Lib.hid ((((Below.refl w.heap.size w).alloc (Nat.le_refl _) (.cells #[] 3)).alloc (by simp) (.cells #[iv x] 3)).drew)
            refine AllReadyH.cons rfl (fun K hK => ?_) AllReadyH.nil
            refine step_append_row _ (by rfl) _ _ _ (by rfl) i0 Try.underlying34 hi hz0 hz1 hz2 w.heap.size (.slice (some ⟨w.heap.size, 0, none⟩) 0 0) ([]) (by simp [go_sem]) ((own_empty w w.heap.size (Nat.le_refl _)).on (((Below.refl _ _).alloc (Nat.le_refl _) (.cells #[iv x] 3)).drew)) (by simp) (⟨b, off, none⟩) (k) (c) (l.take k) (by simp [go_sem]) (by simp; omega) (fun j hj => cell_take hBW.out HC hbl j hj) (by simp; omega) (hBW.out.size) ?_
            intro v1 w2 hO1 hg1 hn1
            refine hK.out _ _ trivial (fun hHeld => ?_)
            clear hK K
            simp only [Act.put]
            have hB2 := Lib.hid (hBW.out.grown hg1 hBW.out.size (fun q hq => by simp [Value.ownBlock] at hq; omega))
            refine wpAnyH_ready (rs := [7]) (by kernel_rfl) (by simp) ?_
            refine AllReadyH.cons rfl (fun K hK => ?_) AllReadyH.nil
            refine step_append_row _ (by rfl) _ _ _ (by rfl) i0 Try.underlying34 hi hz0 hz1 hz2 w.heap.size (v1) ([] ++ l.take k) (by simp [go_sem]) (hO1) (hn1) (⟨w.heap.size + 1, 0, none⟩) (1) (1) ([x]) (by simp [go_sem]) (rfl) (fun j hj => by (have e : j = 0 := by simpa using hj); subst e; exact (hg1.cell_far ⟨w.heap.size + 1, 0, none⟩ (by simp) (by simp [Value.ownBlock])).trans (cell_new1 w (.cells #[] 3) (iv x) 3)) (by simp; omega) (by have := hB2.out.size; simp; omega) ?_
            intro v2 w3 hO2 hg2 hn2
            refine hK.out _ _ trivial (fun hHeld => ?_)
            clear hK K
            simp only [Act.put]
            have hB3 := Lib.hid (hB2.out.grown hg2 (by have := hB2.out.size; simp; omega) (fun q hq => (World.ownsRow.lt hO1 q hq).1))
            refine wpAnyH_ready (rs := [11]) (by kernel_rfl) (by simp) ?_
            refine AllReadyH.cons rfl (fun K hK => ?_) AllReadyH.nil
            refine step_append_row _ (by rfl) _ _ _ (by rfl) i0 Try.underlying34 hi hz0 hz1 hz2 w.heap.size (v2) ([] ++ l.take k ++ [x]) (by simp [go_sem]) (hO2) (hn2) (⟨b, off + k, none⟩) (l.length - k) (c - k) (l.drop k) (by simp [go_sem]) (by simp) (fun j hj => cell_drop hB3.out HC hbl (.inl rfl) j hj) (by simp; omega) (hB3.out.size) ?_
            intro v3 w4 hO3 hg3 hn3
            refine hK.out _ _ trivial (fun hHeld => ?_)
            clear hK K
            simp only [Act.put]
            have hB4 := Lib.hid (hB3.out.grown hg3 hB3.out.size (fun q hq => (World.ownsRow.lt hO2 q hq).1))
            refine wpAnyH_ready (rs := [12]) (by kernel_rfl) (by simp) ?_
            refine AllReadyH.cons rfl (fun K hK => ?_) AllReadyH.nil
            go_simp
            refine hK.out _ _ trivial (fun hHeld => ?_)
            clear hK K
            refine wpAnyH_done (by kernel_rfl) ?_ _
            go_wp2
            go_ret
            exact put_end hO3 hn3 HP.out hB4.out
        · go_simp
          refine hK.out _ _ trivial (fun hHeld => ?_)
          clear hK K
          refine wpAnyH_ready (rs := [0]) (by kernel_rfl) (by simp) ?_
          refine AllReadyH.cons rfl (fun K hK => ?_) AllReadyH.nil
          go_simp
          refine hK.out _ _ trivial (fun hHeld => ?_)
          clear hK K
          refine wpAnyH_ready (rs := [4]) (by kernel_rfl) (by simp) ?_
          have hBW := Lib.hid ((((Below.refl w.heap.size w).alloc (Nat.le_refl _) (.cells #[iv x] 3)).alloc (by simp) (.cells #[] 3)).drew)
          refine AllReadyH.cons rfl (fun K hK => ?_) AllReadyH.nil
          refine step_append_row _ (by rfl) _ _ _ (by rfl) i0 Try.underlying34 hi hz0 hz1 hz2 w.heap.size (.slice (some ⟨w.heap.size + 1, 0, none⟩) 0 0) ([]) (by simp [go_sem]) (own_empty1 w (.cells #[iv x] 3)) (by simp) (⟨b, off, none⟩) (k) (c) (l.take k) (by simp [go_sem]) (by simp; omega) (fun j hj => cell_take hBW.out HC hbl j hj) (by simp; omega) (hBW.out.size) ?_
          intro v1 w2 hO1 hg1 hn1
          refine hK.out _ _ trivial (fun hHeld => ?_)
          clear hK K
          simp only [Act.put]
          have hB2 := Lib.hid (hBW.out.grown hg1 hBW.out.size (fun q hq => by simp [Value.ownBlock] at hq; omega))
          refine wpAnyH_ready (rs := [7]) (by kernel_rfl) (by simp) ?_
          refine AllReadyH.cons rfl (fun K hK => ?_) AllReadyH.nil
          refine step_append_row _ (by rfl) _ _ _ (by rfl) i0 Try.underlying34 hi hz0 hz1 hz2 w.heap.size (v1) ([] ++ l.take k) (by simp [go_sem]) (hO1) (hn1) (⟨w.heap.size, 0, none⟩) (1) (1) ([x]) (by simp [go_sem]) (rfl) (fun j hj => by (have e : j = 0 := by simpa using hj); subst e; exact (hg1.cell_far ⟨w.heap.size, 0, none⟩ (by simp; omega) (by simp [Value.ownBlock])).trans (cell_new0 w (iv x) 3 (.cells #[] 3))) (by simp; omega) (by have := hB2.out.size; simp; omega) ?_
          intro v2 w3 hO2 hg2 hn2
          refine hK.out _ _ trivial (fun hHeld => ?_)
          clear hK K
          simp only [Act.put]
          have hB3 := Lib.hid (hB2.out.grown hg2 (by have := hB2.out.size; simp; omega) (fun q hq => (World.ownsRow.lt hO1 q hq).1))
          refine wpAnyH_ready (rs := [11]) (by kernel_rfl) (by simp) ?_
          refine AllReadyH.cons rfl (fun K hK => ?_) AllReadyH.nil
          refine step_append_row _ (by rfl) _ _ _ (by rfl) i0 Try.underlying34 hi hz0 hz1 hz2 w.heap.size (v2) ([] ++ l.take k ++ [x]) (by simp [go_sem]) (hO2) (hn2) (⟨b, off + k, none⟩) (l.length - k) (c - k) (l.drop k) (by simp [go_sem]) (by simp) (fun j hj => cell_drop hB3.out HC hbl (.inl rfl) j hj) (by simp; omega) (hB3.out.size) ?_
          intro v3 w4 hO3 hg3 hn3
          refine hK.out _ _ trivial (fun hHeld => ?_)
          clear hK K
          simp only [Act.put]
          have hB4 := Lib.hid (hB3.out.grown hg3 hB3.out.size (fun q hq => (World.ownsRow.lt hO2 q hq).1))
          refine wpAnyH_ready (rs := [12]) (by kernel_rfl) (by simp) ?_
          refine AllReadyH.cons rfl (fun K hK => ?_) AllReadyH.nil
          go_simp
          refine hK.out _ _ trivial (fun hHeld => ?_)
          clear hK K
          refine wpAnyH_done (by kernel_rfl) ?_ _
          go_wp2
          go_ret
          exact put_end hO3 hn3 HP.out hB4.out
end Go.Proofs.Ytgjogjmfpbinfaa.S2

namespace Go.Proofs.Ytgjogjmfpbinfaa.S2
open Go.RowKit P2

def rp (x : Int) (M k : Nat) : List Value := List.replicate k (iv x) ++ List.replicate (M - k) (iv 0)
theorem rp_len (x : Int) (M k : Nat) (h : k ≤ M) : (rp x M k).length = M := by simp [rp]; omega
theorem made_rp (x : Int) (M : Nat) (w : World) : (w.alloc (.cells (madeCells #[.int .i64 0] M) 3)).heap[w.heap.size]? = some (.cells (rp x M 0).toArray 3 (0, 0)) := by
  rw [heap_alloc_new w _]
  congr 2
  apply Array.ext'
  rw [toList_madeCells_one]
  simp [rp]
theorem rp_splice (x : Int) (M k m : Nat) : splice (rp x M k) k (List.replicate m (iv x)) = rp x M (k + m) := by
  unfold splice rp
  have e1 : (List.replicate k (iv x) ++ List.replicate (M - k) (iv 0)).take k = List.replicate k (iv x) := by
    rw [List.take_left']; simp
  have e2 : (List.replicate k (iv x) ++ List.replicate (M - k) (iv 0)).drop (k + m) = List.replicate (M - (k + m)) (iv 0) := by
    rw [List.drop_append]
    simp
    omega
  rw [e1, List.length_replicate, e2, ← List.append_assoc, List.replicate_append_replicate]
theorem rp_full (x : Int) (M : Nat) : rp x M M = List.replicate M (iv x) := by simp [rp]
theorem rp_get (x : Int) (M k j : Nat) (h : j < k) : (rp x M k)[j]? = some (iv x) := by
  unfold rp; rw [List.getElem?_append_left (by simpa using h)]; simp [h]

theorem rp_cell {w : World} {g : Nat} {x : Int} {M k : Nat} {t : TypeId} (h : w.heap[g]? = some (.cells (rp x M k).toArray t (0, 0))) (j : Nat) (hj : j < k) : w.drew.cell? ((⟨g, 0, none⟩ : Addr).add j) = some (iv x) := by
  have e : (⟨g, 0, none⟩ : Addr).add j = ⟨g, j, none⟩ := by unfold Addr.add; split <;> simp_all
  rw [e]
  show w.cell? ⟨g, j, none⟩ = _
  rw [cell_of_row w g j _ t (0, 0) h]
  simpa using rp_get x M k j hj

theorem mul_small (M : Nat) (h : M ≤ 1000) (w : World) :
    Calls Try.prog 227 #[.int .u64 1, .int .u64 (M : Int)] w fun e w' => e = .returned (.tuple #[.int .u64 0, .int .u64 (M : Int)]) ∧ w' = w := by
  have h1 := Try.bits_Mul 1 M (by omega) (by omega) w
  have e1 : 1 * M / 18446744073709551616 = 0 := by rw [Nat.one_mul]; exact Nat.div_eq_of_lt (by omega)
  have e2 : 1 * M % 18446744073709551616 = M := by rw [Nat.one_mul]; exact Nat.mod_eq_of_lt (by omega)
  rw [e1, e2] at h1
  exact h1

set_option maxHeartbeats 2000000 in
set_option maxRecDepth 100000 in
theorem repeat_any (x : Int) (b off c M : Nat) (w : World) (hb : b < w.heap.size) (hx : w.cell? ⟨b, off, none⟩ = some (iv x)) (h1 : 1 ≤ M) (h9 : M ≤ 9) :
    Calls Try.prog 213 #[.slice (some ⟨b, off, none⟩) 1 c, .int .i64 (M : Int)] w fun e w' => (∃ g, e = .returned (.slice (some ⟨g, 0, none⟩) M M) ∧ w.heap.size ≤ g ∧ w'.heap[g]? = some (.cells (List.replicate M (iv x)).toArray 3 (0, 0))) ∧ Below w.heap.size w w' := by
  have hmk := run_make_row' (P := Try.prog) 34 3 (.int .i64 0) 8 Try.underlying34 infoI rfl .i64 .i64 M (by omega) (by omega)
  have HM := Lib.hid (fun w => mul_small M (by omega) w)
  have hsz1 : (Try.prog.info? 3).map (·.size) = some 1 := by kernel_rfl
  have HSZ := Lib.hid hsz1
  have hM0 : (0 : Int) ≤ (M : Int) := by omega
  have hM9 : (M : Int) ≤ 9 := by omega
  have hM1 : (1 : Int) ≤ (M : Int) := by omega
  clear hsz1
  go_enter Try.func213, Try.ntmps213
  go_wp2_with (first
    | (go_at_call 227; refine (HM.out _).mono ?_; rintro e w' ⟨rfl, hw⟩; replace hw := hw.symm; subst hw)
    | (with_reducible refine wpList_copy_splice rfl (.tmp 31) (.tmp 32) 34 34 rfl 3 Try.underlying34 HSZ.out _ _ _ _ _ _ rfl rfl w.heap.size 0 (rp x M 0) 3 (made_rp x M w) [iv x] ?n1 ?n2 ?n3 ?n4 w.heap.size w ?n5 (Nat.le_refl _) ?n6))
  case n1 => simp [Nat.min_def]; omega
  case n2 =>
    intro j v hj
    have e : j = 0 := by
      have := (List.getElem?_eq_some_iff.1 hj).1
      simpa using this
    subst e
    have hv : v = iv x := by simpa using hj.symm
    rw [hv, Nat.add_zero]
    exact hx
  case n3 => rw [rp_len x M 0 (by omega)]; simp; omega
  case n4 => intro v hv; simp at hv; subst hv; rfl
  case n5 => exact (Below.refl _ _).alloc (Nat.le_refl _) _
  case n6 =>
    intro w1 hg1 hb1
    have hg1' : Hid (w1.heap[w.heap.size]? = some (.cells (rp x M 1).toArray 3 (0, 0))) := by
      have := rp_splice x M 0 1
      rw [show List.replicate 1 (iv x) = [iv x] from rfl, Nat.zero_add] at this
      rw [← this]
      exact hg1
    clear hg1 hmk
    go_wp2
    go_loopw [8] (fun n wr => ∃ k : Nat, 1 ≤ k ∧ k ≤ M ∧ n = .int .i64 k ∧ Hid (wr.heap[w.heap.size]? = some (.cells (rp x M k).toArray 3 (0, 0))) ∧ Below w.heap.size w wr) (fun n _ => M - (intOf n).toNat)
    case atStart => exact ⟨1, Nat.le_refl _, h1, rfl, hg1', hb1⟩
    case round =>
      obtain ⟨k, hk1, hkM, rfl, hg, hb⟩ := hrel
      by_cases hlt : k < M
      · have hk0 : (0 : Int) ≤ (k : Int) := by omega
        have hkM' : (k : Int) < (M : Int) := by omega
        obtain ⟨m, hm⟩ : ∃ m, m = Nat.min k (M - k) := ⟨_, rfl⟩
        have hm1 : 1 ≤ m := by rw [hm]; simp [Nat.min_def]; split <;> omega
        have hm2 : k + m ≤ M := by rw [hm]; simp [Nat.min_def]; split <;> omega
        have hmk' : m ≤ k := by rw [hm]; simp [Nat.min_def]; split <;> omega
        have HMM := Lib.hid hm
        clear hm
        have hne1 : ¬ M = k := by omega
        have hne2 : ¬ k = M := by omega
        have hkM3 : k ≤ M := by omega
        go_wp2
        refine wp_region_held_drew (S := fun _ => True) (by kernel_rfl) trivial (fun hHeld => ?_)
        refine wpAnyH_take (i := 0) (v := .int .i64 (k : Int)) rfl (by kernel_rfl) (by kernel_rfl) (by kernel_rfl) (fun _ _ _ h => h) (Or.inl ⟨by rfl, ?_⟩) (by assumption) ?_
        · (intro w hSw; go_simp)
        simp only [Act.put, List.setIfInBounds_toArray]
        refine wpAnyH_take (i := 1) (v := .slice (some ⟨w.heap.size, 0, none⟩) M M) rfl (by kernel_rfl) (by kernel_rfl) (by kernel_rfl) (fun _ _ _ h => h) (Or.inl ⟨by rfl, ?_⟩) (by assumption) ?_
        · (intro w hSw; go_simp)
        simp only [Act.put]
        refine wpAnyH_take (i := 2) (v := .int .i64 (k : Int)) rfl (by kernel_rfl) (by kernel_rfl) (by kernel_rfl) (fun _ _ _ h => h) (Or.inl ⟨by rfl, ?_⟩) (by assumption) ?_
        · (intro w hSw; go_simp)
        simp only [Act.put]
        refine wpAnyH_take (i := 3) (v := .slice (some ⟨w.heap.size, k, none⟩) (M - k) (M - k)) rfl (by kernel_rfl) (by kernel_rfl) (by kernel_rfl) (fun _ _ _ h => h) (Or.inl ⟨by rfl, ?_⟩) (by assumption) ?_
        · (intro w hSw; go_simp)
        simp only [Act.put]
        refine wpAnyH_take (i := 4) (v := .slice (some ⟨w.heap.size, 0, none⟩) M M) rfl (by kernel_rfl) (by kernel_rfl) (by kernel_rfl) (fun _ _ _ h => h) (Or.inl ⟨by rfl, ?_⟩) (by assumption) ?_
        · (intro w hSw; go_simp)
        simp only [Act.put]
        refine wpAnyH_take (i := 5) (v := .int .i64 (k : Int)) rfl (by kernel_rfl) (by kernel_rfl) (by kernel_rfl) (fun _ _ _ h => h) (Or.inl ⟨by rfl, ?_⟩) (by assumption) ?_
        · (intro w hSw; go_simp)
        simp only [Act.put]
        refine wpAnyH_take (i := 6) (v := .slice (some ⟨w.heap.size, 0, none⟩) k M) rfl (by kernel_rfl) (by kernel_rfl) (by kernel_rfl) (fun _ _ _ h => h) (Or.inl ⟨by rfl, ?_⟩) (by assumption) ?_
        · (intro w hSw; go_simp)
        simp only [Act.put]
        refine wpAnyH_ready (rs := [7]) (by kernel_rfl) (by simp) ?_
        refine AllReadyH.cons rfl (fun K hK => ?_) AllReadyH.nil
        refine step_copy_splice (by rfl) (.tmp 41) (.tmp 44) 34 34 (by rfl) 3 Try.underlying34 HSZ.out (some ⟨w.heap.size, k, none⟩) (some ⟨w.heap.size, 0, none⟩) (M - k) (M - k) k M (by simp [go_sem]) (by simp [go_sem]) w.heap.size k (rp x M k) 3 (by exact hg.out) (List.replicate m (iv x)) (by rw [List.length_replicate]; exact HMM.out) (fun _ => ⟨rfl, _, rfl, fun j v hj => ?_⟩) (by rw [rp_len x M k hkM, List.length_replicate]; omega) (by intro v hv; rw [List.eq_of_mem_replicate hv]; rfl) w.heap.size w (hb.drew) (Nat.le_refl _) ?_
        · have hjm : j < m := by
            have := (List.getElem?_eq_some_iff.1 hj).1
            simpa using this
          have hv : v = iv x := by
            have h2 := (List.getElem?_eq_some_iff.1 hj).2
            simpa using h2.symm
          rw [hv]
          exact rp_cell hg.out j (by omega)
        intro w4 hg4 hb4
        refine hK.out _ _ trivial (fun hHeld => ?_)
        clear hK K
        have hg5 := Lib.hid (show w4.heap[w.heap.size]? = some (.cells (rp x M (k + m)).toArray 3 (0, 0)) by rw [← rp_splice x M k m]; exact hg4.out)
        have hmi : (m : Int) ≤ 9 := by omega
        have hwr : IntKind.i64.wrap ((k : Int) + (m : Int)) = (k : Int) + (m : Int) := IntWalk.i64_in _ (by omega)
        refine wpAnyH_ready (rs := [8]) (by kernel_rfl) (by simp) ?_
        refine AllReadyH.cons rfl (fun K hK => ?_) AllReadyH.nil
        go_simp
        refine hK.out _ _ trivial (fun hHeld => ?_)
        clear hK K
        refine wpAnyH_ready (rs := [9]) (by kernel_rfl) (by simp) ?_
        refine AllReadyH.cons rfl (fun K hK => ?_) AllReadyH.nil
        go_simp
        refine hK.out _ _ trivial (fun hHeld => ?_)
        clear hK K
        refine wpAnyH_done (by kernel_rfl) ?_ _
        go_wp2
        go_roundw
        case rel => exact ⟨k + m, by omega, hm2, by go_num, hg5, hb4⟩
        case measure => simp [intOf]; omega
      · have hkM2 : k = M := by omega
        subst hkM2
        go_wp2
        go_ret
        have hfin := hg.out
        rw [rp_full] at hfin
        exact ⟨⟨_, rfl, Nat.le_refl _, hfin⟩, hb⟩
end Go.Proofs.Ytgjogjmfpbinfaa.S2

namespace Go.Proofs.Ytgjogjmfpbinfaa.S2
open Go.RowKit P2

/-- Is the network valid, and the node one of it? -/
def NodeIn (n : Int) (ps : List Pp) (x : Int) : Prop := P2.Good n ps ∧ 1 ≤ x ∧ x ≤ n
open Classical in
noncomputable def nodeB (n : Int) (ps : List Pp) (x : Int) : Bool := decide (NodeIn n ps x)
theorem nodeB_of {n : Int} {ps : List Pp} {x : Int} (h : nodeB n ps x = true) : NodeIn n ps x := by simpa [nodeB] using h
theorem nodeB_eq (n : Int) (ps : List Pp) (x : Int) : nodeB n ps x = (goodB n ps && decide (1 ≤ x) && decide (x ≤ n)) := by
  unfold nodeB goodB NodeIn
  rw [Bool.eq_iff_iff]
  simp [and_assoc]

theorem below_alloc_call {w w1 : World} {o : Obj} (h : Below (w.alloc o).heap.size (w.alloc o) w1) : Below w.heap.size w w1 :=
  ((Below.refl _ _).alloc (Nat.le_refl _) o).trans (h.mono (by simp))

set_option maxHeartbeats 1000000 in
theorem node_any (n : Int) (A : Option Addr) (cap : Nat) (ps : List Pp) (x : Int) (w : World) (h : PAt w A ps) (hm : ps.length ≤ maxLen) :
    Calls Try.prog 188 #[nv n A ps.length cap, .int .i64 x] w fun e w' => e = .returned (.bool (nodeB n ps x)) ∧ Below w.heap.size w w' := by
  rw [nodeB_eq]
  obtain ⟨v, hv⟩ : ∃ v, goodB n ps = v := ⟨_, rfl⟩
  have H := Lib.hid (fun w' (hb : Below w.heap.size w w') => valid_v hv A cap w' (h.kept hb (Nat.le_refl _)) hm)
  rw [hv]
  clear hv h
  cases v
  · rw [show (false && decide (1 ≤ x) && decide (x ≤ n)) = false from rfl]
    go_enter Try.func188, Try.ntmps188
    go_wp2_with (go_at_call 115; refine (H.out _ ((Below.refl _ _).alloc (Nat.le_refl _) _)).mono ?_; rintro e w1 ⟨rfl, hb1⟩)
    go_ret
    exact ⟨rfl, below_alloc_call hb1⟩
  · by_cases h1 : 1 ≤ x
    · rw [show (true && decide (1 ≤ x) && decide (x ≤ n)) = decide (x ≤ n) by simp [h1]]
      go_enter Try.func188, Try.ntmps188
      go_wp2_with (go_at_call 115; refine (H.out _ ((Below.refl _ _).alloc (Nat.le_refl _) _)).mono ?_; rintro e w1 ⟨rfl, hb1⟩; obtain ⟨hc1, hf1⟩ := bcell hb1)
      go_ret
      exact ⟨rfl, below_alloc_call hb1⟩
    · rw [show (true && decide (1 ≤ x) && decide (x ≤ n)) = false by simp [h1]]
      go_enter Try.func188, Try.ntmps188
      go_wp2_with (go_at_call 115; refine (H.out _ ((Below.refl _ _).alloc (Nat.le_refl _) _)).mono ?_; rintro e w1 ⟨rfl, hb1⟩)
      go_ret
      exact ⟨rfl, below_alloc_call hb1⟩

theorem sgood_v {n : Int} {ps : List Pp} {v : Bool} (hv : goodB n ps = v) (A : Option Addr) (cap : Nat) (w : World) (h : PAt w A ps) (hm : ps.length ≤ maxLen) :
    Calls Try.prog 112 #[nv n A ps.length cap] w fun e w' => e = .returned (.bool v) ∧ Below w.heap.size w w' := by
  rw [← hv]; exact sgood_any n A cap ps w h hm

set_option maxHeartbeats 1000000 in
theorem snode_any (n : Int) (A : Option Addr) (cap : Nat) (ps : List Pp) (x : Int) (w : World) (h : PAt w A ps) (hm : ps.length ≤ maxLen) :
    Calls Try.prog 126 #[nv n A ps.length cap, .int .i64 x] w fun e w' => e = .returned (.bool (nodeB n ps x)) ∧ Below w.heap.size w w' := by
  rw [nodeB_eq]
  obtain ⟨v, hv⟩ : ∃ v, goodB n ps = v := ⟨_, rfl⟩
  have H := Lib.hid (fun w' (hb : Below w.heap.size w w') => sgood_v hv A cap w' (h.kept hb (Nat.le_refl _)) hm)
  rw [hv]
  clear hv h
  cases v
  · rw [show (false && decide (1 ≤ x) && decide (x ≤ n)) = false from rfl]
    go_enter Try.func126, Try.ntmps126
    go_wp2_with (go_at_call 112; refine (H.out _ ((Below.refl _ _).alloc (Nat.le_refl _) _)).mono ?_; rintro e w1 ⟨rfl, hb1⟩)
    go_ret
    exact ⟨rfl, below_alloc_call hb1⟩
  · obtain ⟨u, hu⟩ : ∃ u, decide (1 ≤ x ∧ x ≤ n) = u := ⟨_, rfl⟩
    rw [show (true && decide (1 ≤ x) && decide (x ≤ n)) = u by rw [← hu]; simp]
    have HI := Lib.hid (in_eq x 1 n u hu)
    clear hu
    go_enter Try.func126, Try.ntmps126
    go_wp2_with (first | (go_at_call 112; refine (H.out _ ((Below.refl _ _).alloc (Nat.le_refl _) _)).mono ?_; rintro e w1 ⟨rfl, hb1⟩; obtain ⟨hc1, hf1⟩ := bcell hb1) | (go_at_call 122; refine (HI.out _).mono ?_; rintro e w' ⟨rfl, rfl⟩))
    go_ret
    exact ⟨rfl, below_alloc_call hb1⟩

theorem node_v {n : Int} {ps : List Pp} {x : Int} {v : Bool} (hv : nodeB n ps x = v) (A : Option Addr) (cap : Nat) (w : World) (h : PAt w A ps) (hm : ps.length ≤ maxLen) :
    Calls Try.prog 188 #[nv n A ps.length cap, .int .i64 x] w fun e w' => e = .returned (.bool v) ∧ Below w.heap.size w w' := by
  rw [← hv]; exact node_any n A cap ps x w h hm
theorem snode_v {n : Int} {ps : List Pp} {x : Int} {v : Bool} (hv : nodeB n ps x = v) (A : Option Addr) (cap : Nat) (w : World) (h : PAt w A ps) (hm : ps.length ≤ maxLen) :
    Calls Try.prog 126 #[nv n A ps.length cap, .int .i64 x] w fun e w' => e = .returned (.bool v) ∧ Below w.heap.size w w' := by
  rw [← hv]; exact snode_any n A cap ps x w h hm
end Go.Proofs.Ytgjogjmfpbinfaa.S2

namespace Go.Proofs.Ytgjogjmfpbinfaa.S2
open Go.RowKit P2

/-- r is the index of the first pipe with the Id x, or -1. -/
def FindIs (ps : List Pp) (x r : Int) : Prop := (r = -1 ∧ ∀ i, i < ps.length → (pAt ps i).id ≠ x) ∨ ∃ i : Nat, i < ps.length ∧ r = (i : Int) ∧ (pAt ps i).id = x ∧ ∀ j, j < i → (pAt ps j).id ≠ x

set_option maxHeartbeats 2000000 in
theorem find_any (n : Int) (A : Option Addr) (cap : Nat) (ps : List Pp) (x : Int) (w : World) (h : PAt w A ps) (hm : ps.length ≤ 1048576) :
    Calls Try.prog 146 #[nv n A ps.length cap, .int .i64 x] w fun e w' => (∃ r, e = .returned (.int .i64 r) ∧ FindIs ps x r) ∧ Below w.heap.size w w' := by
  have HA := Lib.hid h
  clear h
  go_enter Try.func146, Try.ntmps146
  go_wp2
  go_loopw [5] (fun i wr => ∃ k : Nat, k ≤ ps.length ∧ i = .int .i64 (k : Int) ∧ Hid (∀ j, j < k → (pAt ps j).id ≠ x) ∧ Below (w.heap.size + 1) (w.alloc (.cells #[.int .i64 n, .slice A ps.length cap] 30)) wr) (fun i _ => ps.length - (intOf i).toNat)
  case atStart => exact ⟨0, Nat.zero_le _, rfl, Lib.hid (fun j hj => absurd hj (by omega)), Below.refl _ _⟩
  case round =>
    obtain ⟨k, hk, rfl, hno, hb⟩ := hrel
    obtain ⟨b0, b1⟩ := box2 hb
    by_cases hlt : k < ps.length
    · obtain ⟨b, off, hA, hbl, h0, h1, h2, h3⟩ := (HA.out.kept (below_box hb) (Nat.le_refl _)).at_ hlt
      subst hA
      have hk0 : (0 : Int) ≤ (k : Int) := by omega
      have hkn : (k : Int) < (ps.length : Int) := by omega
      by_cases he : (pAt ps k).id = x
      · have HFI := Lib.hid (show FindIs ps x (k : Int) from .inr ⟨k, hlt, rfl, he, hno.out⟩)
        have hE : ((pAt ps k).id == x) = true := beq_iff_eq.2 he
        clear he hno h1 h2 h3
        generalize (pAt ps k).id = y at *
        go_wp2
        go_ret
        exact ⟨⟨_, rfl, HFI.out⟩, below_box hb⟩
      · have hno2 := Lib.hid (show ∀ j, j < k + 1 → (pAt ps j).id ≠ x from fun j hj => by
          by_cases e : j = k
          · subst e; exact he
          · exact hno.out j (by omega))
        have hE : ((pAt ps k).id == x) = false := beq_eq_false_iff_ne.2 he
        clear he hno h1 h2 h3
        generalize (pAt ps k).id = y at *
        go_wp2
        go_roundw
        case rel => exact ⟨k + 1, by omega, by go_num, hno2, hb⟩
        case measure => simp [intOf]; omega
    · have HFI := Lib.hid (show FindIs ps x (-1) from .inl ⟨rfl, fun i hi => hno.out i (by omega)⟩)
      go_wp2
      go_ret
      exact ⟨⟨_, rfl, HFI.out⟩, below_box hb⟩

def cmpI (a b : Int) : Int := if a < b then -1 else if b < a then 1 else 0
theorem nan_int (x : Int) (w : World) : Calls Try.prog 228 #[.int .i64 x] w fun e w' => e = .returned (.bool false) ∧ w' = w := by
  go_enter Try.func228, Try.ntmps228
  go_wp2
  go_ret
  exact ⟨rfl, rfl⟩
theorem cmp_int (x y : Int) (w : World) : Calls Try.prog 217 #[.int .i64 x, .int .i64 y] w fun e w' => e = .returned (.int .i64 (cmpI x y)) ∧ w' = w := by
  have hN := Lib.hid (fun x w => nan_int x w)
  by_cases h1 : x < y
  · have e : cmpI x y = -1 := by unfold cmpI; rw [if_pos h1]
    rw [e]; clear e
    go_enter Try.func217, Try.ntmps217
    go_wp2_with (go_at_call 228; refine (hN.out _ _).mono ?_; rintro e w1 ⟨rfl, hw⟩; replace hw := hw.symm; subst hw)
    go_ret
    exact ⟨rfl, rfl⟩
  · by_cases h2 : y < x
    · have e : cmpI x y = 1 := by unfold cmpI; rw [if_neg h1, if_pos h2]
      rw [e]; clear e
      go_enter Try.func217, Try.ntmps217
      go_wp2_with (go_at_call 228; refine (hN.out _ _).mono ?_; rintro e w1 ⟨rfl, hw⟩; replace hw := hw.symm; subst hw)
      go_ret
      exact ⟨rfl, rfl⟩
    · have e : cmpI x y = 0 := by unfold cmpI; rw [if_neg h1, if_neg h2]
      rw [e]; clear e
      go_enter Try.func217, Try.ntmps217
      go_wp2_with (go_at_call 228; refine (hN.out _ _).mono ?_; rintro e w1 ⟨rfl, hw⟩; replace hw := hw.symm; subst hw)
      go_ret
      exact ⟨rfl, rfl⟩

theorem cmp_any (p : Pp) (x : Int) (w : World) :
    Calls Try.prog 216 #[pv p, .int .i64 x] w fun e w' => e = .returned (.int .i64 (cmpI p.id x)) ∧ Below w.heap.size w w' := by
  obtain ⟨id, fr, to_, sz⟩ := p
  have HC := Lib.hid (fun w => cmp_int id x w)
  go_enter Try.func216, Try.ntmps216
  go_wp2_with (go_at_call 217; refine (HC.out _).mono ?_; rintro e w1 ⟨rfl, rfl⟩)
  go_ret
  exact ⟨rfl, (Below.refl _ _).alloc (Nat.le_refl _) _⟩

theorem cmp_lt {x y : Int} (h : x < y) : cmpI x y = -1 := by unfold cmpI; rw [if_pos h]
theorem cmp_eq {x y : Int} (h : x = y) : cmpI x y = 0 := by unfold cmpI; rw [if_neg (by omega), if_neg (by omega)]
theorem cmp_gt {x y : Int} (h : y < x) : cmpI x y = 1 := by unfold cmpI; rw [if_neg (by omega), if_pos h]
/-- The place at which an Id stands or would stand. -/
structure Place (ps : List Pp) (x : Int) (i : Nat) (f : Bool) : Prop where
  le : i ≤ ps.length
  low : ∀ k, k < i → (pAt ps k).id < x
  high : ∀ k, i ≤ k → k < ps.length → x ≤ (pAt ps k).id
  found : f = true ↔ i < ps.length ∧ (pAt ps i).id = x

set_option maxHeartbeats 2000000 in
set_option maxRecDepth 100000 in
theorem search_any (A : Option Addr) (cap : Nat) (ps : List Pp) (x : Int) (w : World) (h : PAt w A ps) (hl : ps.length ≤ 10) (hs : ∀ i j, i < j → j < ps.length → (pAt ps i).id < (pAt ps j).id) :
    Calls Try.prog 215 #[.slice A ps.length cap, .int .i64 x, .func (.func 216) #[] #[]] w fun e w' => (∃ i f, e = .returned (.tuple #[.int .i64 ((i : Nat) : Int), .bool f]) ∧ Place ps x i f) ∧ Below w.heap.size w w' := by
  have HA := Lib.hid h
  have HS := Lib.hid hs
  clear h hs
  go_enter Try.func215, Try.ntmps215
  go_wp2
  go_loopw [9, 10, 11] (fun i j _ wr => ∃ I J : Nat, I ≤ J ∧ J ≤ ps.length ∧ i = .int .i64 (I : Int) ∧ j = .int .i64 (J : Int) ∧ Hid (∀ k, k < I → (pAt ps k).id < x) ∧ Hid (∀ k, J ≤ k → k < ps.length → x ≤ (pAt ps k).id) ∧ Below w.heap.size w wr) (fun i j _ _ => (intOf j).toNat - (intOf i).toNat)
  case atStart => exact ⟨0, ps.length, Nat.zero_le _, Nat.le_refl _, rfl, rfl, Lib.hid (fun k hk => absurd hk (by omega)), Lib.hid (fun k h1 h2 => absurd h2 (by omega)), Below.refl _ _⟩
  case round =>
    obtain ⟨I, J, hIJ, hJ, rfl, rfl, hlow, hhigh, hb⟩ := hrel
    by_cases hlt : I < J
    · obtain ⟨M, hM⟩ : ∃ M, M = (I + J) / 2 := ⟨_, rfl⟩
      have hM1 : I ≤ M := by omega
      have hM2 : M < J := by omega
      have hMi : ((I : Int) + (J : Int)) / 2 = (M : Int) := by omega
      have hu : IntKind.u64.wrap ((I : Int) + (J : Int)) = (I : Int) + (J : Int) := by rw [IntKind.wrap_u64]; omega
      have huM : IntKind.u64.wrap (M : Int) = (M : Int) := by rw [IntKind.wrap_u64]; omega
      have hM0 : (0 : Int) ≤ (M : Int) := by omega
      have hMn : (M : Int) < (ps.length : Int) := by omega
      obtain ⟨b, off, hA, hbl, h0, h1, h2, h3⟩ := (HA.out.kept hb (Nat.le_refl _)).at_ (i := M) (by omega)
      subst hA
      clear hM
      by_cases hc : (pAt ps M).id < x
      · have HC := Lib.hid (fun w => cmp_any (pAt ps M) x w)
        rw [cmp_lt hc] at HC
        have hlow2 := Lib.hid (show ∀ k, k < M + 1 → (pAt ps k).id < x from fun k hk => by
          by_cases e : k = M
          · rw [e]; exact hc
          · exact Int.lt_trans (HS.out k M (by omega) (by omega)) hc)
        clear hc
        go_wp2_with (go_at_call 216; refine (HC.out _).mono ?_; rintro e w1 ⟨rfl, hb1⟩)
        go_roundw
        case rel => exact ⟨M + 1, J, by omega, hJ, by go_num, rfl, hlow2, hhigh, hb.trans (hb1.mono hb.size)⟩
        case measure => simp [intOf]; omega
      · by_cases he : (pAt ps M).id = x
        · have HC := Lib.hid (fun w => cmp_any (pAt ps M) x w)
          rw [cmp_eq he] at HC
          have hhigh2 := Lib.hid (show ∀ k, M ≤ k → k < ps.length → x ≤ (pAt ps k).id from fun k h1 h2 => by
            by_cases e : k = M
            · rw [e]; omega
            · exact Int.le_trans (show x ≤ (pAt ps M).id by omega) (Int.le_of_lt (HS.out M k (by omega) h2)))
          clear hc he
          go_wp2_with (go_at_call 216; refine (HC.out _).mono ?_; rintro e w1 ⟨rfl, hb1⟩)
          go_roundw
          case rel => exact ⟨I, M, hM1, by omega, rfl, rfl, hlow, hhigh2, hb.trans (hb1.mono hb.size)⟩
          case measure => simp [intOf]; omega
        · have hg : x < (pAt ps M).id := by omega
          have HC := Lib.hid (fun w => cmp_any (pAt ps M) x w)
          rw [cmp_gt hg] at HC
          have hhigh2 := Lib.hid (show ∀ k, M ≤ k → k < ps.length → x ≤ (pAt ps k).id from fun k h1 h2 => by
            by_cases e : k = M
            · rw [e]; omega
            · exact Int.le_trans (show x ≤ (pAt ps M).id by omega) (Int.le_of_lt (HS.out M k (by omega) h2)))
          clear hc he hg
          go_wp2_with (go_at_call 216; refine (HC.out _).mono ?_; rintro e w1 ⟨rfl, hb1⟩)
          go_roundw
          case rel => exact ⟨I, M, hM1, by omega, rfl, rfl, hlow, hhigh2, hb.trans (hb1.mono hb.size)⟩
          case measure => simp [intOf]; omega
    · have hIJe : I = J := by omega
      subst hIJe
      by_cases hn : I < ps.length
      · have hI0 : (0 : Int) ≤ (I : Int) := by omega
        have hIn : (I : Int) < (ps.length : Int) := by omega
        have hle := hhigh.out I (by omega) hn
        obtain ⟨b, off, hA, hbl, h0, h1, h2, h3⟩ := (HA.out.kept hb (Nat.le_refl _)).at_ (i := I) hn
        subst hA
        by_cases hh : (pAt ps I).id = x
        · have HC := Lib.hid (fun w => cmp_any (pAt ps I) x w)
          rw [cmp_eq hh] at HC
          have HP := Lib.hid (show Place ps x I true from ⟨by omega, hlow.out, fun k h1 h2 => hhigh.out k (by omega) h2, by simp; omega⟩)
          clear hh
          go_wp2_with (go_at_call 216; refine (HC.out _).mono ?_; rintro e w1 ⟨rfl, hb1⟩)
          go_ret2
          exact ⟨⟨I, _, rfl, HP.out⟩, hb.trans (hb1.mono hb.size)⟩
        · have HC := Lib.hid (fun w => cmp_any (pAt ps I) x w)
          rw [cmp_gt (show x < (pAt ps I).id by omega)] at HC
          have HP := Lib.hid (show Place ps x I false from ⟨by omega, hlow.out, fun k h1 h2 => hhigh.out k (by omega) h2, by simp; omega⟩)
          clear hh
          go_wp2_with (go_at_call 216; refine (HC.out _).mono ?_; rintro e w1 ⟨rfl, hb1⟩)
          go_ret2
          exact ⟨⟨I, _, rfl, HP.out⟩, hb.trans (hb1.mono hb.size)⟩
      · have HP := Lib.hid (show Place ps x I false from ⟨by omega, hlow.out, fun k h1 h2 => hhigh.out k (by omega) h2, by simp; omega⟩)
        have hIn : (ps.length : Int) ≤ (I : Int) := by omega
        go_wp2
        go_ret2
        exact ⟨⟨I, _, rfl, HP.out⟩, hb⟩

theorem good_ids {n : Int} {ps : List Pp} (h : P2.Good n ps) : ∀ i j, i < j → j < ps.length → (pAt ps i).id < (pAt ps j).id := by
  intro i j hij hj
  induction j with
  | zero => omega
  | succ j ih =>
    have h1 := (h.2.2.2 (j + 1) hj (pAt ps (j + 1)) (pAt_get ps _ hj)).2 (pAt ps j) (by omega) (by rw [Nat.add_sub_cancel]; exact pAt_get ps _ (by omega))
    by_cases e : i = j
    · subst e; exact h1
    · exact Int.lt_trans (ih (by omega) (by omega)) h1
theorem place_any (n : Int) (A : Option Addr) (cap : Nat) (ps : List Pp) (x : Int) (w : World) (h : PAt w A ps) (hg : P2.Good n ps) :
    Calls Try.prog 169 #[nv n A ps.length cap, .int .i64 x] w fun e w' => (∃ i f, e = .returned (.tuple #[.int .i64 ((i : Nat) : Int), .bool f]) ∧ Place ps x i f) ∧ Below w.heap.size w w' := by
  have HS := Lib.hid (fun w' (hb : Below w.heap.size w w') => search_any A cap ps x w' (h.kept hb (Nat.le_refl _)) hg.2.2.1 (good_ids hg))
  clear h hg
  go_enter Try.func169, Try.ntmps169
  go_wp2_with (go_at_call 215; refine (HS.out _ ((Below.refl _ _).alloc (Nat.le_refl _) _)).mono ?_; rintro e w1 ⟨⟨i, f, rfl, hp⟩, hb1⟩)
  go_ret2
  exact ⟨⟨i, f, rfl, hp⟩, ((Below.refl w.heap.size w).alloc (Nat.le_refl _) _).trans (hb1.mono (by simp))⟩
/-- The model finds what the program finds. -/
theorem place_find {ps : List Pp} {x r : Int} {i : Nat} {f : Bool} (hs : ∀ i j, i < j → j < ps.length → (pAt ps i).id < (pAt ps j).id) (h : Place ps x i f) (hr : FindIs ps x r) : (f = true → r = (i : Int) ∧ i < ps.length) ∧ (f = false → r = -1) := by
  constructor
  · intro hf
    obtain ⟨hi, he⟩ := h.found.1 hf
    rcases hr with ⟨_, hno⟩ | ⟨k, hk, hrk, hkx, hfirst⟩
    · exact absurd he (hno i hi)
    · refine ⟨?_, hi⟩
      have h1 : ¬ k < i := fun hlt => by have := h.low k hlt; omega
      have h2 : ¬ i < k := fun hlt => hfirst i hlt he
      rw [hrk]; omega
  · intro hf
    rcases hr with ⟨e, _⟩ | ⟨k, hk, hrk, hkx, hfirst⟩
    · exact e
    · exfalso
      by_cases hki : k < i
      · have := h.low k hki; omega
      · have hik : i < ps.length := by omega
        by_cases e : (pAt ps i).id = x
        · have := h.found.2 ⟨hik, e⟩; rw [hf] at this; cases this
        · have h3 := h.high i (Nat.le_refl _) hik
          by_cases e2 : k = i
          · rw [e2] at hkx; exact e hkx
          · have := hs i k (by omega) hk; omega
theorem find_one {ps : List Pp} {x r s : Int} (h : FindIs ps x r) (g : FindIs ps x s) : r = s := by
  rcases h with ⟨rfl, h⟩ | ⟨i, hi, rfl, hix, hif⟩
  · rcases g with ⟨rfl, _⟩ | ⟨j, hj, rfl, hjx, _⟩
    · rfl
    · exact absurd hjx (h j hj)
  · rcases g with ⟨rfl, g⟩ | ⟨j, hj, rfl, hjx, hjf⟩
    · exact absurd hix (g i hi)
    · have h1 : ¬ i < j := fun h => hjf i h hix
      have h2 : ¬ j < i := fun h => hif j h hjx
      have : i = j := by omega
      rw [this]
theorem find_ex (ps : List Pp) (x : Int) : ∃ r, FindIs ps x r := by
  by_cases h : ∃ i, i < ps.length ∧ (pAt ps i).id = x
  · obtain ⟨i, hi, hx, hn⟩ : ∃ i, i < ps.length ∧ (pAt ps i).id = x ∧ ∀ j, j < i → (pAt ps j).id ≠ x := by
      obtain ⟨i, hi, hx⟩ := h
      induction i using Nat.strongRecOn with
      | ind i ih =>
        by_cases hc : ∃ j, j < i ∧ (pAt ps j).id = x
        · obtain ⟨j, hj, hxj⟩ := hc
          exact ih j hj (by omega) hxj
        · exact ⟨i, hi, hx, fun j hj he => hc ⟨j, hj, he⟩⟩
    exact ⟨(i : Int), .inr ⟨i, hi, rfl, hx, hn⟩⟩
  · exact ⟨-1, .inl ⟨rfl, fun i hi he => h ⟨i, hi, he⟩⟩⟩
end Go.Proofs.Ytgjogjmfpbinfaa.S2
