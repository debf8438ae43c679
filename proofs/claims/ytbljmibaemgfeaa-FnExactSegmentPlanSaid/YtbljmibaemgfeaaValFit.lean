/- Whether valves are valid, for the program: contracts. Conditions: each theorem's own premises. -/
import Derived.Test.YtbljmibaemgfeaaFindOne
import Derived.Test.YtbljmibaemgfeaaIdxOne
import Derived.Lib.QuietBelow
namespace Go.Proofs.Ytbljmibaemgfeaa.S2
open Go.RowKit Go.Sort P2 P4

theorem met_at {P : Program} {f : FuncId} {args : Array Value} {w : World} {d : Nat} {os : Array Obj} {v : Value}
    (h : ∀ w', Below w.heap.size w w' → Calls P f args w' fun e w'' => e = .returned v ∧ Below w'.heap.size w' w'') : Calls P f args (grow (redrawn w d) os) fun e w'' => e = .returned v ∧ ∃ p : Regrown, w'' = grow (redrawn w p.d) p.os :=
  Calls.regrown_of (h _ (below_regrown w d os))
theorem place_uniq {ps : List Pp} {x : Int} {i : Nat} {f : Bool} (hs : ∀ i j, i < j → j < ps.length → (pAt ps i).id < (pAt ps j).id) (h : Place ps x i f) {k : Nat} (hk : k < ps.length) (hx : (pAt ps k).id = x) : f = true ∧ k = i := by
  have hik : ¬ k < i := fun hlt => by have := h.low k hlt; omega
  have hle : i < ps.length := by omega
  have hge := h.high i (Nat.le_refl _) hle
  have hki : k = i := Classical.byContradiction fun hne => by have := hs i k (by omega) hk; omega
  subst hki
  exact ⟨h.found.2 ⟨hk, hx⟩, rfl⟩
theorem fitB_yes {ps : List Pp} {v : Vv} (h : Fit ps v) : P4.fitB ps v = true := by simpa [P4.fitB] using h
theorem fitB_no {ps : List Pp} {v : Vv} (h : ¬ Fit ps v) : P4.fitB ps v = false := by simpa [P4.fitB] using h
theorem fit_no1 {ps : List Pp} {v : Vv} (h : ¬ (1 ≤ v.id ∧ v.id ≤ 99)) : P4.fitB ps v = false := by
  exact fitB_no fun hf => h ⟨hf.1, hf.2.1⟩
theorem fit_no2 {ps : List Pp} {v : Vv} {i : Nat} (hs : ∀ i j, i < j → j < ps.length → (pAt ps i).id < (pAt ps j).id) (h : Place ps v.pp i false) : P4.fitB ps v = false := by
  refine fitB_no fun hf => ?_
  obtain ⟨_, _, k, hk, hx, _⟩ := hf
  have := (place_uniq hs h hk hx).1
  cases this
theorem fit_yes {ps : List Pp} {v : Vv} {i : Nat} (h1 : 1 ≤ v.id) (h9 : v.id ≤ 99) (h : Place ps v.pp i true) (he : (pAt ps i).fr = v.nd ∨ (pAt ps i).to = v.nd) : P4.fitB ps v = true := by
  obtain ⟨hi, hx⟩ := h.found.1 rfl
  exact fitB_yes ⟨h1, h9, i, hi, hx, he⟩
theorem fit_no3 {ps : List Pp} {v : Vv} {i : Nat} (hs : ∀ i j, i < j → j < ps.length → (pAt ps i).id < (pAt ps j).id) (h : Place ps v.pp i true) (he : ¬ ((pAt ps i).fr = v.nd ∨ (pAt ps i).to = v.nd)) : P4.fitB ps v = false := by
  refine fitB_no fun hf => ?_
  obtain ⟨_, _, k, hk, hx, hn⟩ := hf
  have := (place_uniq hs h hk hx).2
  subst this
  exact he hn
theorem fit_of {ps : List Pp} {v : Vv} (h : P4.fitB ps v = true) : Fit ps v := by simpa [P4.fitB] using h
theorem fit_not {ps : List Pp} {v : Vv} (h : P4.fitB ps v = false) : ¬ Fit ps v := by simpa [P4.fitB] using h

set_option maxHeartbeats 4000000 in
theorem vfits_any (n : Int) (A : Option Addr) (cap : Nat) (ps : List Pp) (v : Vv) (w : World) (h : PAt w A ps) (hg : P2.Good n ps) :
    Calls Try.prog 126 #[nv n A ps.length cap, vvl v] w fun e w' => e = .returned (.bool (P4.fitB ps v)) ∧ Below w.heap.size w w' := by
  have HS := Lib.hid (good_ids hg)
  have HP := Lib.hid (fun w' (hb : Below w.heap.size w w') => place_any n A cap ps v.pp w' (h.kept hb (Nat.le_refl _)) hg)
  have HA := Lib.hid h
  have hl10 := hg.2.2.1
  clear h hg
  have base : ∀ W, Below w.heap.size w ((w.alloc (.cells #[.int .i64 n, .slice A ps.length cap] 32)).alloc (.cells #[.int .i64 v.id, .int .i64 v.pp, .int .i64 v.nd, .bool v.sh] 60)) ∧ (Below (w.heap.size + 2) ((w.alloc (.cells #[.int .i64 n, .slice A ps.length cap] 32)).alloc (.cells #[.int .i64 v.id, .int .i64 v.pp, .int .i64 v.nd, .bool v.sh] 60)) W → Below w.heap.size w W) := fun W =>
    ⟨((Below.refl _ _).alloc (Nat.le_refl _) _).alloc (by simp) _, fun hb => (((Below.refl _ _).alloc (Nat.le_refl _) _).alloc (by simp) _).trans (hb.mono (by omega))⟩
  have HB := Lib.hid base
  clear base
  obtain ⟨id, pp, nd, sh⟩ := v
  dsimp only at HP HB
  by_cases g1 : 1 ≤ id
  · by_cases g9 : id ≤ 99
    · have d1 : decide (1 ≤ id) = true := by simpa using g1
      have d9 : decide (id ≤ 99) = true := by simpa using g9
      go_enter Try.func126, Try.ntmps126
      go_wp2_with (go_at_call 144; refine (HP.out _ (HB.out w).1).mono ?_; rintro e w1 ⟨⟨i, f, rfl, hp⟩, hb1⟩; obtain ⟨hc1, hf1⟩ := bcell hb1; have HPL := Lib.hid hp; have hbw := Lib.hid ((HB.out w1).2 (by simpa using hb1)); have hz1 := hb1.size; simp at hz1; clear hp hb1; refine Hid.out ?_)
      cases f with
      | false =>
        have HR := Lib.hid (fit_no2 (v := ⟨id, pp, nd, sh⟩) HS.out HPL.out)
        refine Lib.hid ?_
        go_wp2_with fail
        go_quiet (fail)
        go_wp2_with fail
        go_ret
        exact ⟨by rw [HR.out]; rfl, below_drewN hbw.out _⟩
      | true =>
        obtain ⟨hi, hx⟩ := HPL.out.found.1 rfl
        obtain ⟨b, off, hA, hbl, h0, h1, h2, h3⟩ := HA.out.at_ hi
        subst hA
        have hi0 : (0 : Int) ≤ (i : Int) := by omega
        have hin : (i : Int) < (ps.length : Int) := by omega
        have hb2 : b < w.heap.size + 2 := by omega
        clear h0 h3 hx
        by_cases e1 : (pAt ps i).fr = nd
        · have HR := Lib.hid (fit_yes (v := ⟨id, pp, nd, sh⟩) g1 g9 HPL.out (.inl e1))
          have E1 : ((pAt ps i).fr == nd) = true := beq_iff_eq.2 e1
          clear e1
          generalize (pAt ps i).fr = fr at *
          generalize (pAt ps i).to = to_ at *
          refine Lib.hid ?_
          go_wp2_with fail
          go_quiet (fail)
          go_wp2_with fail
          go_ret
          exact ⟨by rw [HR.out]; rfl, below_drewN hbw.out _⟩
        · have E1 : ((pAt ps i).fr == nd) = false := beq_eq_false_iff_ne.2 e1
          by_cases e2 : (pAt ps i).to = nd
          · have HR := Lib.hid (fit_yes (v := ⟨id, pp, nd, sh⟩) g1 g9 HPL.out (.inr e2))
            have E2 : ((pAt ps i).to == nd) = true := beq_iff_eq.2 e2
            clear e1 e2
            generalize (pAt ps i).fr = fr at *
            generalize (pAt ps i).to = to_ at *
            refine Lib.hid ?_
            go_wp2_with fail
            go_quiet (fail)
            go_wp2_with fail
            go_ret
            exact ⟨by rw [HR.out]; rfl, below_drewN hbw.out _⟩
          · have HR := Lib.hid (fit_no3 (v := ⟨id, pp, nd, sh⟩) HS.out HPL.out (by rintro (h | h); exact e1 h; exact e2 h))
            have E2 : ((pAt ps i).to == nd) = false := beq_eq_false_iff_ne.2 e2
            clear e1 e2
            generalize (pAt ps i).fr = fr at *
            generalize (pAt ps i).to = to_ at *
            refine Lib.hid ?_
            go_wp2_with fail
            go_quiet (fail)
            go_wp2_with fail
            go_ret
            exact ⟨by rw [HR.out]; rfl, below_drewN hbw.out _⟩
    · have d1 : decide (1 ≤ id) = true := by simpa using g1
      have d9 : decide (id ≤ 99) = false := by simpa using g9
      have HR := Lib.hid (fit_no1 (ps := ps) (v := ⟨id, pp, nd, sh⟩) (fun h => g9 h.2))
      go_enter Try.func126, Try.ntmps126
      go_wp2_with (go_at_call 144; refine (HP.out _ (HB.out w).1).mono ?_; rintro e w1 ⟨⟨i, f, rfl, hp⟩, hb1⟩; obtain ⟨hc1, hf1⟩ := bcell hb1; have HPL := Lib.hid hp; have hbw := Lib.hid ((HB.out w1).2 (by simpa using hb1)); have hz1 := hb1.size; simp at hz1; clear hp hb1; refine Hid.out ?_)
      refine Lib.hid ?_
      go_wp2_with fail
      go_quiet (fail)
      go_wp2_with fail
      go_ret
      exact ⟨by rw [HR.out]; rfl, below_drewN hbw.out _⟩
  · have d1 : decide (1 ≤ id) = false := by simpa using g1
    have HR := Lib.hid (fit_no1 (ps := ps) (v := ⟨id, pp, nd, sh⟩) (fun h => g1 h.1))
    go_enter Try.func126, Try.ntmps126
    go_wp2_with (go_at_call 144; refine (HP.out _ (HB.out w).1).mono ?_; rintro e w1 ⟨⟨i, f, rfl, hp⟩, hb1⟩; obtain ⟨hc1, hf1⟩ := bcell hb1; have HPL := Lib.hid hp; have hbw := Lib.hid ((HB.out w1).2 (by simpa using hb1)); have hz1 := hb1.size; simp at hz1; clear hp hb1; refine Hid.out ?_)
    refine Lib.hid ?_
    go_wp2_with fail
    go_quiet (fail)
    go_wp2_with fail
    go_ret
    exact ⟨by rw [HR.out]; rfl, below_drewN hbw.out _⟩
end Go.Proofs.Ytbljmibaemgfeaa.S2
