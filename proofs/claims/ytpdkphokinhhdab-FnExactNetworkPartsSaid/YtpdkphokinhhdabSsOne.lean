/- Slices of slices of ints: what is read, what the call owns; the laws' helpers on them: comparison, marks, marks found again: contracts. Conditions: each theorem's own premises. -/
import Derived.Test.YtpdkphokinhhdabLawInts
namespace Go.Proofs.Ytpdkphokinhhdab.S2
open Go.RowKit Go.Sort P2

theorem met_at {P : Program} {f : FuncId} {args : Array Value} {w : World} {d : Nat} {os : Array Obj} {v : Value}
    (h : ∀ w', Below w.heap.size w w' → Calls P f args w' fun e w'' => e = .returned v ∧ Below w'.heap.size w' w'') : Calls P f args (grow (redrawn w d) os) fun e w'' => e = .returned v ∧ ∃ p : Regrown, w'' = grow (redrawn w p.d) p.os :=
  Calls.regrown_of (h _ (below_regrown w d os))

abbrev rw_ (ls : List (List Int)) (i : Nat) : List Int := ls.getD i []
/-- The rows ls lie there. -/
def SAt (w : World) (A : Option Addr) (ls : List (List Int)) : Prop :=
  ls = [] ∨ ∃ b off, A = some ⟨b, off, none⟩ ∧ b < w.heap.size ∧ ∀ i, i < ls.length → ∃ B c, w.cell? ⟨b, off + i, none⟩ = some (.slice B (rw_ ls i).length c) ∧ IAt w B (rw_ ls i)
theorem SAt.kept {w w' : World} {A : Option Addr} {ls : List (List Int)} {S : Nat} (h : SAt w A ls) (hb : Below S w w') (hS : w.heap.size ≤ S) : SAt w' A ls := by
  rcases h with h | ⟨b, off, hA, hlt, h⟩
  · exact .inl h
  · refine .inr ⟨b, off, hA, Nat.lt_of_lt_of_le hlt hb.size, fun i hi => ?_⟩
    obtain ⟨B, c, hc, hI⟩ := h i hi
    exact ⟨B, c, (hb.cell (p := ⟨b, off + i, none⟩) (by show b < S; omega)).trans hc, hI.kept hb hS⟩
theorem SAt.at_ {w : World} {A : Option Addr} {ls : List (List Int)} (h : SAt w A ls) {i : Nat} (hi : i < ls.length) : ∃ b off B c, A = some ⟨b, off, none⟩ ∧ b < w.heap.size ∧ w.cell? ⟨b, off + i, none⟩ = some (.slice B (rw_ ls i).length c) ∧ IAt w B (rw_ ls i) := by
  rcases h with h | ⟨b, off, hA, hlt, h⟩
  · subst h; simp at hi
  · obtain ⟨B, c, hc, hI⟩ := h i hi
    exact ⟨b, off, B, c, hA, hlt, hc, hI⟩

set_option maxHeartbeats 2000000 in
theorem eqss_same (A A2 : Option Addr) (cap cap2 : Nat) (ls : List (List Int)) (w : World) (h : SAt w A ls) (h2 : SAt w A2 ls) (hn : ls.length ≤ 1000) (hr : ∀ i, i < ls.length → (rw_ ls i).length ≤ 1000) :
    Calls Try.prog 29 #[.slice A ls.length cap, .slice A2 ls.length cap2] w fun e w' => e = .returned (.bool true) ∧ Below w.heap.size w w' := by
  have HA := Lib.hid h
  have HA2 := Lib.hid h2
  have HR := Lib.hid hr
  clear h h2 hr
  go_enter Try.func29, Try.ntmps29
  go_wp2
  go_loopw [5] (fun i wr => ∃ k : Nat, k ≤ ls.length ∧ i = .int .i64 k ∧ Below w.heap.size w wr) (fun i _ => ls.length - (intOf i).toNat)
  case atStart => exact ⟨0, Nat.zero_le _, rfl, Below.refl _ _⟩
  case round =>
    obtain ⟨k, hk, rfl, hb⟩ := hrel
    by_cases hlt : k < ls.length
    · obtain ⟨b, off, B, c, hA, hbl, h0, hI⟩ := (HA.out.kept hb (Nat.le_refl _)).at_ hlt
      obtain ⟨b2, off2, B2, c2, hA2, hbl2, g0, hI2⟩ := (HA2.out.kept hb (Nat.le_refl _)).at_ hlt
      subst hA hA2
      have hk0i : (0 : Int) ≤ (k : Int) := by omega
      have hk1i : (k : Int) < (ls.length : Int) := by omega
      have hrk := HR.out k hlt
      have HE := Lib.hid (fun w' (hb' : Below wr.heap.size wr w') => eqints_same B B2 c c2 (rw_ ls k) w' (hI.kept hb' (Nat.le_refl _)) (hI2.kept hb' (Nat.le_refl _)) (by omega))
      clear hI hI2
      generalize (rw_ ls k).length = n at *
      have hG := @cell_g
      go_wp2
      refine region_below (by kernel_rfl) (by kernel_rfl) ?_
      repeat (first | go_big_quiet_step ((go_at_call 58; exact met_at (fun w' hb' => HE.out w' hb'))))
      refine wpQuiet_nil ?_
      intro w1 hb1
      go_wp2
      go_roundw
      case rel => exact ⟨k + 1, by omega, by go_num, hb.trans (hb1.mono hb.size)⟩
      case measure => simp [intOf]; omega
    · go_wp2
      go_ret
      exact ⟨rfl, hb⟩
end Go.Proofs.Ytpdkphokinhhdab.S2
