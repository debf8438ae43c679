/- Whether a network is valid: what the program and the model return: contracts. Conditions: each theorem's own premises. -/
import Derived.Test.YtlkomipjamelkabFitOne
import Derived.Deep.QuietTactic
import Derived.BigQuiet
import Derived.Test.YtlkomipjamelkabQuietOne
namespace Go.Proofs.Ytlkomipjamelkab.S2
open Go.RowKit P2

/-- The pipes ps lie there. -/
def PAt (w : World) (A : Option Addr) (ps : List Pp) : Prop :=
  ps = [] ∨ ∃ b off, A = some ⟨b, off, none⟩ ∧ b < w.heap.size ∧ ∀ i, i < ps.length →
    w.cell? ⟨b, off + i * 4, none⟩ = some (.int .i64 (pAt ps i).id) ∧ w.cell? ⟨b, off + i * 4 + 1, none⟩ = some (.int .i64 (pAt ps i).fr) ∧
    w.cell? ⟨b, off + i * 4 + 2, none⟩ = some (.int .i64 (pAt ps i).to) ∧ w.cell? ⟨b, off + i * 4 + 3, none⟩ = some (.int .i64 (pAt ps i).sz)
theorem PAt.kept {w w' : World} {A : Option Addr} {ps : List Pp} {B : Nat} (h : PAt w A ps) (hb : Below B w w') (hB : w.heap.size ≤ B) : PAt w' A ps := by
  rcases h with h | ⟨b, off, hA, hlt, h⟩
  · exact .inl h
  · refine .inr ⟨b, off, hA, Nat.lt_of_lt_of_le hlt hb.size, fun i hi => ?_⟩
    obtain ⟨h0, h1, h2, h3⟩ := h i hi
    have hc : ∀ o, w'.cell? ⟨b, o, none⟩ = w.cell? ⟨b, o, none⟩ := fun o => hb.cell (p := ⟨b, o, none⟩) (by show b < B; omega)
    rw [hc, hc, hc, hc]
    exact ⟨h0, h1, h2, h3⟩
theorem PAt.at_ {w : World} {A : Option Addr} {ps : List Pp} (h : PAt w A ps) {i : Nat} (hi : i < ps.length) : ∃ b off, A = some ⟨b, off, none⟩ ∧ b < w.heap.size ∧
    w.cell? ⟨b, off + i * 4, none⟩ = some (.int .i64 (pAt ps i).id) ∧ w.cell? ⟨b, off + i * 4 + 1, none⟩ = some (.int .i64 (pAt ps i).fr) ∧
    w.cell? ⟨b, off + i * 4 + 2, none⟩ = some (.int .i64 (pAt ps i).to) ∧ w.cell? ⟨b, off + i * 4 + 3, none⟩ = some (.int .i64 (pAt ps i).sz) := by
  rcases h with h | ⟨b, off, hA, hlt, h⟩
  · subst h; simp at hi
  · exact ⟨b, off, hA, hlt, h i hi⟩

theorem fits_yes (p : Pp) (n : Int) (h : fitB n p = true) : ∀ w, Calls Try.prog 129 #[pv p, .int .i64 n] w fun e w' => e = .returned (.bool true) ∧ Below w.heap.size w w' :=
  fun w => (fits_any p n w).mono fun _ _ ⟨he, hb⟩ => ⟨by rw [he, h], hb⟩
theorem fits_no (p : Pp) (n : Int) (h : fitB n p = false) : ∀ w, Calls Try.prog 129 #[pv p, .int .i64 n] w fun e w' => e = .returned (.bool false) ∧ Below w.heap.size w w' :=
  fun w => (fits_any p n w).mono fun _ _ ⟨he, hb⟩ => ⟨by rw [he, h], hb⟩
theorem sfits_yes (p : Pp) (n : Int) (h : fitB n p = true) : ∀ w, Calls Try.prog 151 #[.int .i64 n, pv p] w fun e w' => e = .returned (.bool true) ∧ Below w.heap.size w w' :=
  fun w => (sfits_any p n w).mono fun _ _ ⟨he, hb⟩ => ⟨by rw [he, h], hb⟩
theorem sfits_no (p : Pp) (n : Int) (h : fitB n p = false) : ∀ w, Calls Try.prog 151 #[.int .i64 n, pv p] w fun e w' => e = .returned (.bool false) ∧ Below w.heap.size w w' :=
  fun w => (sfits_any p n w).mono fun _ _ ⟨he, hb⟩ => ⟨by rw [he, h], hb⟩

/-- What was there when the call began, and its first box, stand. -/
theorem below_keep {B : Nat} {w0 wr w1 : World} {o : Obj} (h : Below B w0 wr) (hB : B ≤ wr.heap.size) (hb : Below (wr.alloc o).heap.size (wr.alloc o) w1) : Below B w0 w1 :=
  (h.alloc hB o).trans (hb.mono (by simp; omega))
theorem below_box {w w1 : World} {o : Obj} (h : Below (w.heap.size + 1) (w.alloc o) w1) : Below w.heap.size w w1 :=
  ((Below.refl _ w).alloc (Nat.le_refl _) o).trans (h.mono (by omega))

/-- A network as a value. -/
abbrev nv (n : Int) (A : Option Addr) (len cap : Nat) : Value := .agg #[.int .i64 n, .slice A len cap]
def GoodPost (n : Int) (ps : List Pp) (w : World) (e : Ending) (w' : World) : Prop := e = .returned (.bool (goodB n ps)) ∧ Below w.heap.size w w'

theorem good_post {n : Int} {ps : List Pp} {w w' : World} {v : Bool} (h : goodB n ps = v) (hb : Below w.heap.size w w') : GoodPost n ps w (.returned (.bool v)) w' := ⟨by rw [h], hb⟩

set_option maxHeartbeats 1000000 in
theorem valid_any (n : Int) (A : Option Addr) (cap : Nat) (ps : List Pp) (w : World) (h : PAt w A ps) (hm : ps.length ≤ maxLen) :
    Calls Try.prog 66 #[nv n A ps.length cap] w (GoodPost n ps w) := by
  unfold maxLen at hm
  have HA := Lib.hid h
  clear h
  by_cases hbad : n < 1 ∨ 8 < n ∨ 10 < ps.length
  · have hfin := Lib.hid (good_no (n := n) (ps := ps) (fun ⟨a, b, c, _⟩ => by omega))
    go_enter Try.func66, Try.ntmps66
    go_wp2
    all_goals
      go_ret
      exact good_post hfin.out ((Below.refl _ _).alloc (Nat.le_refl _) _)
  · have hn1 : 1 ≤ n := by omega
    have hn8 : n ≤ 8 := by omega
    have hl : ps.length ≤ 10 := by omega
    clear hbad
    go_enter Try.func66, Try.ntmps66
    go_wp2
    go_loopw [22] (fun i wr => ∃ k : Nat, k ≤ ps.length ∧ i = .int .i64 k ∧ Hid (OkTo n ps k) ∧ Below (w.heap.size + 1) (w.alloc (.cells #[.int .i64 n, .slice A ps.length cap] 26)) wr) (fun i _ => ps.length - (intOf i).toNat)
    case atStart => exact ⟨0, Nat.zero_le _, rfl, Lib.hid (OkTo.zero _ _), Below.refl _ _⟩
    case round =>
      obtain ⟨k, hk, rfl, hok, hb⟩ := hrel
      by_cases hlt : k < ps.length
      · obtain ⟨b, off, hA, hbl, h0, h1, h2, h3⟩ := HA.out.at_ hlt
        subst hA
        obtain ⟨hc, hf⟩ := bcell (W := w.alloc (.cells #[.int .i64 n, .slice (some ⟨b, off, none⟩) ps.length cap] 26)) (by simpa using hb)
        have hz : w.heap.size < wr.heap.size := by have := hb.size; simp at this; omega
        have hbw : b < wr.heap.size := by omega
        have hb' : b ≤ wr.heap.size := by omega
        have hz' : w.heap.size ≤ wr.heap.size := by omega
        have hG := @cell_g
        have hcl := Lib.hid (fun (o : Obj) (w1 : World) (h1 : Below (wr.alloc o).heap.size (wr.alloc o) w1) => below_keep hb hz h1)
        by_cases hfit : fitB n (pAt ps k) = true
        · have H1 := Lib.hid (fits_yes (pAt ps k) n hfit)
          have hnext := Lib.hid (fun hq => OkTo.next hok.out hlt (of_decide_eq_true hfit) hq)
          have hbad := Lib.hid (fun hq => good_no (OkTo.bad (n := n) hlt (.inr hq)))
          clear hfit
          by_cases hk0 : k = 0
          · subst hk0
            simp only [Nat.zero_mul, Nat.add_zero] at h0 h1 h2 h3
            have hok1 := Lib.hid (hnext.out (fun h => absurd h (by omega)))
            clear hbad hnext
            generalize pAt ps 0 = p at *
            go_wp2
            refine region_below (by kernel_rfl) (by kernel_rfl) ?_
            repeat (first | go_big_quiet_step ((go_at_call 129; exact met H1.out)))
            refine wpQuiet_nil ?_
            intro w1 hb1
            go_wp2
            go_roundw
            case rel => exact ⟨1, by omega, by go_num, hok1, hcl.out _ _ hb1⟩
            case measure => simp [intOf]; omega
          · obtain ⟨j, rfl⟩ : ∃ j, k = j + 1 := ⟨k - 1, by omega⟩
            obtain ⟨b', off', hA', hbl', g0, g1, g2, g3⟩ := HA.out.at_ (show j < ps.length by omega)
            simp only [Option.some.injEq, Addr.mk.injEq, and_true] at hA'
            obtain ⟨rfl, rfl⟩ := hA'
            have hj0 : (0 : Int) ≤ (j : Int) := by omega
            have hj1 : (j : Int) < (ps.length : Int) := by omega
            by_cases hq : (pAt ps j).id < (pAt ps (j + 1)).id
            · have hok1 := Lib.hid (hnext.out (fun _ => by simpa using hq))
              have hq' : ¬ (pAt ps (j + 1)).id ≤ (pAt ps j).id := by omega
              clear hbad hnext
              generalize pAt ps (j + 1) = p at *
              clear g1 g2 g3 hbl'
              generalize pAt ps j = q at *
              go_wp2
              refine region_below (by kernel_rfl) (by kernel_rfl) ?_
              repeat (first | go_big_quiet_step ((go_at_call 129; exact met H1.out)))
              refine wpQuiet_nil ?_
              intro w1 hb1
              go_wp2
              go_roundw
              case rel => exact ⟨j + 2, by omega, by go_num, hok1, hcl.out _ _ hb1⟩
              case measure => simp [intOf]; omega
            · have hfin := Lib.hid (hbad.out ⟨by omega, by simpa using (by omega : (pAt ps (j + 1)).id ≤ (pAt ps j).id)⟩)
              have hq' : (pAt ps (j + 1)).id ≤ (pAt ps j).id := by omega
              clear hbad hnext hq
              generalize pAt ps (j + 1) = p at *
              clear g1 g2 g3 hbl'
              generalize pAt ps j = q at *
              go_wp2
              refine region_below (by kernel_rfl) (by kernel_rfl) ?_
              repeat (first | go_big_quiet_step ((go_at_call 129; exact met H1.out)))
              refine wpQuiet_nil ?_
              intro w1 hb1
              go_wp2
              go_ret
              exact good_post hfin.out (below_box (hcl.out _ _ hb1))
        · rw [Bool.not_eq_true] at hfit
          have H1 := Lib.hid (fits_no (pAt ps k) n hfit)
          have hfin := Lib.hid (good_no (OkTo.bad (n := n) hlt (.inl (of_decide_eq_false hfit))))
          clear hfit
          generalize pAt ps k = p at *
          go_wp2
          refine region_below (by kernel_rfl) (by kernel_rfl) ?_
          repeat (first | go_big_quiet_step ((go_at_call 129; exact met H1.out)))
          refine wpQuiet_nil ?_
          intro w1 hb1
          go_wp2
          go_ret
          exact good_post hfin.out (below_box (hcl.out _ _ hb1))
      · have hfin := Lib.hid (good_mk (n := n) (ps := ps) ⟨hn1, hn8, hl, by have := hok.out; rwa [show k = ps.length by omega] at this⟩)
        go_wp2
        go_ret
        exact good_post hfin.out (below_box hb)
end Go.Proofs.Ytlkomipjamelkab.S2
