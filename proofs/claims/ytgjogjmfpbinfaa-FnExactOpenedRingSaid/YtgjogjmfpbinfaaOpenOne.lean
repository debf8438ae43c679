/- A law's argument that is a network, opened to its cells. Conditions: each theorem's own premises. -/
import Derived.Test.YtgjogjmfpbinfaaGoodOne
import Derived.Lib.SmallJoins
import Derived.Deep.Slices
import Derived.Deep.Fields
import Derived.ChangeSame
import Derived.OpenShut
namespace Go.Proofs.Ytgjogjmfpbinfaa.S2
open Go.RowKit Go.ChangeShapes Go.WideShapes Go.Deep Go.Joins P2

section
variable {H : Type} {enc : TypeId × Value → H} {w : World} {spare : Nat → Bool}
theorem intsOne : Try.prog.cellsOf 3 = 1 := by kernel_rfl
theorem pipeFour : Try.prog.cellsOf 161 = 4 := by kernel_rfl
set_option maxRecDepth 100000 in
theorem pipe_open {fuel : Nat} {cs : List Value} {x : DataW H × List MemPlace} (h : DataW.trod enc Try.prog w 0 spare true fuel 161 cs = some x) :
    ∃ q : Pp, cs = [.int .i64 q.id, .int .i64 q.fr, .int .i64 q.to, .int .i64 q.sz] := by
  obtain ⟨xs, n, _, _, hl, hlx, hf⟩ := DataW.trod_struct Try.underlying161 h
  rw [pipeFour] at hl
  match cs, hl, xs, hlx with
  | [c0, c1, c2, c3], _, [y0, y1, y2, y3], _ =>
    have g0 : DataW.trod enc Try.prog w 0 spare true n 3 (List.take (Try.prog.cellsOf 3) (List.drop 0 [c0, c1, c2, c3])) = some y0 := hf 0 _ rfl
    have g1 : DataW.trod enc Try.prog w 0 spare true n 3 (List.take (Try.prog.cellsOf 3) (List.drop 1 [c0, c1, c2, c3])) = some y1 := hf 1 _ rfl
    have g2 : DataW.trod enc Try.prog w 0 spare true n 3 (List.take (Try.prog.cellsOf 3) (List.drop 2 [c0, c1, c2, c3])) = some y2 := hf 2 _ rfl
    have g3 : DataW.trod enc Try.prog w 0 spare true n 3 (List.take (Try.prog.cellsOf 3) (List.drop 3 [c0, c1, c2, c3])) = some y3 := hf 3 _ rfl
    rw [intsOne] at g0 g1 g2 g3
    obtain ⟨n0, e0, _⟩ := DataW.trod_int (cs := [c0]) Try.underlying3 g0
    obtain ⟨n1, e1, _⟩ := DataW.trod_int (cs := [c1]) Try.underlying3 g1
    obtain ⟨n2, e2, _⟩ := DataW.trod_int (cs := [c2]) Try.underlying3 g2
    obtain ⟨n3, e3, _⟩ := DataW.trod_int (cs := [c3]) Try.underlying3 g3
    injection e0 with e0
    injection e1 with e1
    injection e2 with e2
    injection e3 with e3
    exact ⟨⟨n0, n1, n2, n3⟩, by rw [e0, e1, e2, e3]⟩

theorem add_plus (b off i : Nat) : (⟨b, off, none⟩ : Addr).add i = ⟨b, off + i, none⟩ := by unfold Addr.add; split <;> simp_all

set_option maxRecDepth 100000 in
theorem pipes_open {fuel : Nat} {v : Value} {x : DataW H × List MemPlace} (h : DataW.trod enc Try.prog w 0 (fun _ => true) true fuel 22 [v] = some x) :
    ∃ (A : Option Addr) (cap : Nat) (ps : List Pp), v = .slice A ps.length cap ∧ PAt w A ps ∧ ps.length ≤ maxLen := by
  rcases open_slice Try.underlying22 h with ⟨hcs, _⟩ | ⟨a, len, cap, m, n, D, Pl, hcs, _, hl, hm, hmm, _, hi⟩
  · injection hcs with hcs
    exact ⟨none, 0, [], hcs, .inl rfl, by simp⟩
  · injection hcs with hcs
    have hm' : len ≤ m := by rw [hmm]; split <;> omega
    have h4 := pipeFour
    have hq : ∀ i, ∃ q : Pp, i < len → w.cell? (a.add (i * 4)) = some (.int .i64 q.id) ∧ w.cell? ((a.add (i * 4)).add 1) = some (.int .i64 q.fr) ∧ w.cell? ((a.add (i * 4)).add 2) = some (.int .i64 q.to) ∧ w.cell? ((a.add (i * 4)).add 3) = some (.int .i64 q.sz) := by
      intro i
      by_cases hil : i < len
      · obtain ⟨cs', hc, ht⟩ := hi i (by omega)
        rw [h4] at hc
        obtain ⟨q, rfl⟩ := pipe_open ht
        obtain ⟨_, _, hat⟩ := World.cells?_some hc
        refine ⟨q, fun _ => ⟨?_, ?_, ?_, ?_⟩⟩
        · have := hat 0 (by omega)
          simpa [Addr.add] using this
        · exact hat 1 (by omega)
        · exact hat 2 (by omega)
        · exact hat 3 (by omega)
      · exact ⟨default, fun h => absurd h hil⟩
    obtain ⟨f, hf⟩ := Classical.axiomOfChoice hq
    have hlen : ((List.range len).map f).length = len := by simp
    refine ⟨some a, cap, (List.range len).map f, by rw [hcs, hlen], ?_, by rw [hlen]; omega⟩
    by_cases h0 : len = 0
    · subst h0; exact .inl rfl
    · obtain ⟨b, off, spot⟩ := a
      have hspot : spot = none := by
        have := (hf 0 (by omega)).1
        simpa [Addr.add] using World.cell?_spot this
      subst hspot
      have hbl : b < w.heap.size := by
        have := World.block_lt_of_cell? w _ (hf 0 (by omega)).1
        rw [add_plus] at this
        exact this
      refine .inr ⟨b, off, rfl, hbl, fun i hi' => ?_⟩
      rw [hlen] at hi'
      have e : pAt ((List.range len).map f) i = f i := by unfold pAt; simp [List.getD, hi']
      obtain ⟨c0, c1, c2, c3⟩ := hf i hi'
      rw [e]
      rw [add_plus] at c0 c1 c2 c3
      rw [add_plus] at c1 c2 c3
      exact ⟨c0, c1, c2, c3⟩

set_option maxRecDepth 100000 in
theorem net_open {r : Reach} {b0 : Nat} {v : Value} {d : DataW H} {p : List MemPlace} (hv : Value.okWide Try.prog w r b0 24 v) (h : DataW.Trod enc Try.prog w 0 (fun _ => true) true 24 v d p) :
    ∃ (n : Int) (A : Option Addr) (cap : Nat) (ps : List Pp), v = nv n A ps.length cap ∧ PAt w A ps ∧ ps.length ≤ maxLen := by
  obtain ⟨v0, v1, y0, y1, n, rfl, _, _, h0, h1⟩ := open_agg2 Try.underlying24 (by kernel_rfl) (by kernel_rfl) hv h
  obtain ⟨k, e0, _⟩ := DataW.trod_int Try.underlying3 h0
  injection e0 with e0
  obtain ⟨A, cap, ps, rfl, hA, hm⟩ := pipes_open h1
  exact ⟨k, A, cap, ps, by rw [e0], hA, hm⟩
set_option maxRecDepth 100000 in
theorem int_open {r : Reach} {b0 : Nat} {v : Value} {d : DataW H} {p : List MemPlace} (hv : Value.okWide Try.prog w r b0 3 v) (h : DataW.Trod enc Try.prog w 0 (fun _ => true) true 3 v d p) : ∃ n : Int, v = .int .i64 n ∧ -9223372036854775808 ≤ n ∧ n ≤ 9223372036854775807 := by
  obtain ⟨n, hn, _, _, hw⟩ := open_int Try.underlying3 hv h
  refine ⟨n, hn, ?_⟩
  have e1 : IntKind.i64.min = -9223372036854775808 := rfl
  have e2 : IntKind.i64.max = 9223372036854775807 := rfl
  simpa [Lit.wf, e1, e2] using hw
end
end Go.Proofs.Ytgjogjmfpbinfaa.S2
