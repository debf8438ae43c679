/- A law's argument that is a slice of valves, opened to its cells. Conditions: each theorem's own premises. -/
import Derived.Test.YtbljmibaemgfeaaOpenOne
import Derived.Test.YtbljmibaemgfeaaValTwo
namespace Go.Proofs.Ytbljmibaemgfeaa.S2
open Go.RowKit Go.ChangeShapes Go.WideShapes Go.Deep Go.Joins P2 P4

section
variable {H : Type} {enc : TypeId × Value → H} {w : World} {spare : Nat → Bool}
theorem boolsOne : Try.prog.cellsOf 4 = 1 := by kernel_rfl
theorem valveFour : Try.prog.cellsOf 58 = 4 := by kernel_rfl
set_option maxRecDepth 100000 in
theorem valve_open {fuel : Nat} {cs : List Value} {x : DataW H × List MemPlace} (h : DataW.trod enc Try.prog w 0 spare true fuel 58 cs = some x) :
    ∃ q : Vv, cs = [.int .i64 q.id, .int .i64 q.pp, .int .i64 q.nd, .bool q.sh] := by
  obtain ⟨xs, n, _, _, hl, hlx, hf⟩ := DataW.trod_struct Try.underlying58 h
  rw [valveFour] at hl
  match cs, hl, xs, hlx with
  | [c0, c1, c2, c3], _, [y0, y1, y2, y3], _ =>
    have g0 : DataW.trod enc Try.prog w 0 spare true n 3 (List.take (Try.prog.cellsOf 3) (List.drop 0 [c0, c1, c2, c3])) = some y0 := hf 0 _ rfl
    have g1 : DataW.trod enc Try.prog w 0 spare true n 3 (List.take (Try.prog.cellsOf 3) (List.drop 1 [c0, c1, c2, c3])) = some y1 := hf 1 _ rfl
    have g2 : DataW.trod enc Try.prog w 0 spare true n 3 (List.take (Try.prog.cellsOf 3) (List.drop 2 [c0, c1, c2, c3])) = some y2 := hf 2 _ rfl
    have g3 : DataW.trod enc Try.prog w 0 spare true n 4 (List.take (Try.prog.cellsOf 4) (List.drop 3 [c0, c1, c2, c3])) = some y3 := hf 3 _ rfl
    rw [intsOne] at g0 g1 g2
    rw [boolsOne] at g3
    obtain ⟨n0, e0, _⟩ := DataW.trod_int (cs := [c0]) Try.underlying3 g0
    obtain ⟨n1, e1, _⟩ := DataW.trod_int (cs := [c1]) Try.underlying3 g1
    obtain ⟨n2, e2, _⟩ := DataW.trod_int (cs := [c2]) Try.underlying3 g2
    obtain ⟨n3, e3, _⟩ := DataW.trod_bool (cs := [c3]) Try.underlying4 g3
    injection e0 with e0
    injection e1 with e1
    injection e2 with e2
    injection e3 with e3
    exact ⟨⟨n0, n1, n2, n3⟩, by rw [e0, e1, e2, e3]⟩

set_option maxRecDepth 100000 in
theorem valves_open {fuel : Nat} {v : Value} {x : DataW H × List MemPlace} (h : DataW.trod enc Try.prog w 0 (fun _ => true) true fuel 25 [v] = some x) :
    ∃ (A : Option Addr) (cap : Nat) (vs : List Vv), v = .slice A vs.length cap ∧ VAt w A vs ∧ vs.length ≤ maxLen := by
  rcases open_slice Try.underlying25 h with ⟨hcs, _⟩ | ⟨a, len, cap, m, n, D, Pl, hcs, _, hl, hm, hmm, _, hi⟩
  · injection hcs with hcs
    exact ⟨none, 0, [], hcs, .inl rfl, by simp⟩
  · injection hcs with hcs
    have hm' : len ≤ m := by rw [hmm]; split <;> omega
    have h4 := valveFour
    have hq : ∀ i, ∃ q : Vv, i < len → w.cell? (a.add (i * 4)) = some (.int .i64 q.id) ∧ w.cell? ((a.add (i * 4)).add 1) = some (.int .i64 q.pp) ∧ w.cell? ((a.add (i * 4)).add 2) = some (.int .i64 q.nd) ∧ w.cell? ((a.add (i * 4)).add 3) = some (.bool q.sh) := by
      intro i
      by_cases hil : i < len
      · obtain ⟨cs', hc, ht⟩ := hi i (by omega)
        rw [h4] at hc
        obtain ⟨q, rfl⟩ := valve_open ht
        obtain ⟨_, _, hat⟩ := World.cells?_some hc
        refine ⟨q, fun _ => ⟨?_, ?_, ?_, ?_⟩⟩
        · have := hat 0 (by omega)
          simpa [Addr.add] using this
        · exact hat 1 (by omega)
        · exact hat 2 (by omega)
        · exact hat 3 (by omega)
      · exact ⟨default, fun h => absurd h hil⟩
    obtain ⟨f, hf⟩ := Classical.axiomOfChoice hq
    have hlen : ((List.range len).map f).length = len := by simp
    refine ⟨some a, cap, (List.range len).map f, by rw [hcs, hlen], ?_, by rw [hlen]; omega⟩
    by_cases h0 : len = 0
    · subst h0; exact .inl rfl
    · obtain ⟨b, off, spot⟩ := a
      have hspot : spot = none := by
        have := (hf 0 (by omega)).1
        simpa [Addr.add] using World.cell?_spot this
      subst hspot
      have hbl : b < w.heap.size := by
        have := World.block_lt_of_cell? w _ (hf 0 (by omega)).1
        rw [add_plus] at this
        exact this
      refine .inr ⟨b, off, rfl, hbl, fun i hi' => ?_⟩
      rw [hlen] at hi'
      have e : vAt ((List.range len).map f) i = f i := by unfold vAt; simp [List.getD, hi']
      obtain ⟨c0, c1, c2, c3⟩ := hf i hi'
      rw [e]
      rw [add_plus] at c0 c1 c2 c3
      rw [add_plus] at c1 c2 c3
      exact ⟨c0, c1, c2, c3⟩
set_option maxRecDepth 100000 in
theorem valvearg_open {r : Reach} {b0 : Nat} {v : Value} {d : DataW H} {p : List MemPlace} (hv : Value.okWide Try.prog w r b0 25 v) (h : DataW.Trod enc Try.prog w 0 (fun _ => true) true 25 v d p) :
    ∃ (A : Option Addr) (cap : Nat) (vs : List Vv), v = .slice A vs.length cap ∧ VAt w A vs ∧ vs.length ≤ maxLen := by
  obtain ⟨a, len, cp, rfl⟩ := okWide_slice Try.underlying25 hv
  obtain ⟨fuel, h⟩ := h
  exact valves_open (v := .slice a len cp) h
end
end Go.Proofs.Ytbljmibaemgfeaa.S2
