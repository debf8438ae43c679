/- A row of numbers of the call's own beside a pumping's box: plain facts on memory. Conditions: each theorem's own premises. -/
import Derived.Test.YtlkomipjamelkaaPuEgP
import Derived.Test.YtlkomipjamelkaaPuGives
import Derived.OwnWalk
namespace Go.Proofs.Ytlkomipjamelkaa.S13
open Go.RowKit Go.Sort P11 S11 P13

structure R1 (w wr : World) (p : Pg) (A : Option Addr) (c : Nat) (A2 : Option Addr) (c2 : Nat) (g cg : Nat) (l : List Int) : Prop where
  o1 : IOwn wr (w.heap.size + 1) (.slice (some ⟨g, 0, none⟩) l.length cg) l
  b6 : B6 wr w.heap.size 0 p A c A2 c2
  bw : Below w.heap.size w wr
theorem R1.call {w wr w2 : World} {p : Pg} {A : Option Addr} {c : Nat} {A2 : Option Addr} {c2 g cg : Nat} {l : List Int} (h : R1 w wr p A c A2 c2 g cg l) (hb : Below wr.heap.size wr w2) : R1 w w2 p A c A2 c2 g cg l :=
  ⟨h.o1.on hb, h.b6.kept hb, h.bw.trans (hb.mono h.bw.size)⟩
theorem R1.push {w wr w2 : World} {p : Pg} {A : Option Addr} {c : Nat} {A2 : Option Addr} {c2 g cg : Nat} {l : List Int} {x : Int} {v' : Value} (h : R1 w wr p A c A2 c2 g cg l) (hg : wr.grownBy w2 (some g)) (ho : w2.ownsRow (w.heap.size + 1) 3 1 v' (l.length + 1) (l.map iv ++ [iv x]))
    (hbl : v'.ownBlock = some g ∨ v'.ownBlock = some wr.heap.size) : ∃ g' c', v' = .slice (some ⟨g', 0, none⟩) (l.length + 1) c' ∧ R1 w w2 p A c A2 c2 g' c' (l ++ [x]) := by
  have hq := World.ownsRow.lt h.o1 g rfl
  obtain ⟨g1', c1', hv, _, _⟩ := ho.form (by omega)
  subst hv
  have hl : (l ++ [x]).length = l.length + 1 := by simp
  refine ⟨g1', c1', rfl, ⟨?_, h.b6.far hg (by omega), ?_⟩⟩
  · rw [hl]; exact IOwn.push ho
  · exact h.bw.grown hg (Nat.le_trans (Nat.le_refl _) h.bw.size) (fun k hk => by have : k = g := by simpa using hk.symm
                                                                                 omega)
theorem R1.new {w w1 : World} {p : Pg} {A : Option Addr} {c : Nat} {A2 : Option Addr} {c2 : Nat} (hb : Below w.heap.size w w1) (h6 : B6 w1 w.heap.size 0 p A c A2 c2) :
    R1 w (w1.alloc (.cells #[] 3)) p A c A2 c2 w1.heap.size 0 [] :=
  ⟨own_empty w1 _ h6.lt, h6.kept (alloc_below _ _), hb.trans ((alloc_below _ _).mono hb.size)⟩
theorem R1.post {w wr : World} {p : Pg} {A : Option Addr} {c : Nat} {A2 : Option Addr} {c2 g cg n : Nat} {l : List Int} {ok : Bool} (h : R1 w wr p A c A2 c2 g cg l) (hn : l.length = n) : GivesA w l ok (.returned (.tuple #[.slice (some ⟨g, 0, none⟩) n cg, .bool ok])) wr :=
  have b1 := World.ownsRow.lt h.o1 g rfl
  ⟨g, 0, cg, by rw [hn], by omega, h.o1.iat, h.bw, b1.2⟩
theorem least_v {x y z : Int} (h : (if x < y then x else y) = z) (w : World) : Calls Try.prog 49 #[.int .i64 x, .int .i64 y] w fun e w' => e = .returned (.int .i64 z) ∧ w' = w := by
  by_cases hc : x < y
  · rw [if_pos hc] at h
    subst h
    go_enter Try.func49, Try.ntmps49
    go_wp2
    go_ret
    exact ⟨rfl, rfl⟩
  · rw [if_neg hc] at h
    subst h
    go_enter Try.func49, Try.ntmps49
    go_wp2
    go_ret
    exact ⟨rfl, rfl⟩
end Go.Proofs.Ytlkomipjamelkaa.S13
