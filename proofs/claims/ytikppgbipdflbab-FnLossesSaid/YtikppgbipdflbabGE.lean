/- A network, flows on it and a pipe or two nodes of it, drawn: contracts. Conditions: each theorem's own premises. -/
import Derived.Test.YtikppgbipdflbabNwNod
import Derived.Test.YtikppgbipdflbabDrNet
import Derived.Test.YtikppgbipdflbabGA
import Derived.Deep.DeepCutAuto
import Derived.Test.YtikppgbipdflbabSpI
import Derived.Test.YtikppgbipdflbabGoodTwo
import Derived.Test.YtikppgbipdflbabReachTwo
namespace Go.Proofs.Ytikppgbipdflbab.S2
open Go.RowKit Go.Sort P2

/-- A list of numbers under way: the cursor, what has changed, the list in a row of its own, the network's box. -/
structure LI (w wr : World) (B g : Nat) (a : Option Addr) (n cap K : Nat) (N : Int) (u : Value) (v : Value) (l : List Int) : Prop where
  st : S1.St B g a n cap K wr
  gr : w.grownBy wr (some g)
  own : IOwn wr (w.heap.size + 1) v l
  box : TN wr w.heap.size (.int .i64 N) u
  gw : g < w.heap.size
theorem LI.alloc {w wr : World} {B g : Nat} {a : Option Addr} {n cap K : Nat} {N : Int} {u v : Value} {l : List Int} (h : LI w wr B g a n cap K N u v l) (ob : Obj) : LI w (wr.alloc ob) B g a n cap K N u v l :=
  ⟨S1.st_new h.st _, S1.grown_new h.gr _, h.own.alloc _, h.box.below (alloc_below _ _), h.gw⟩
theorem LI.call {w wr w2 : World} {B g : Nat} {a : Option Addr} {n cap K K' : Nat} {N : Int} {u v : Value} {l : List Int} (h : LI w wr B g a n cap K N u v l) (hs : S1.St B g a n cap K' w2) (hg : wr.grownBy w2 (some g)) : LI w w2 B g a n cap K' N u v l :=
  ⟨hs, S1.grown_trans h.gr hg, World.ownsRow.kept h.own hg (.inr (fun e => by have := (World.ownsRow.lt h.own g e).1; have := h.gw; omega)), h.box.grown hg (by have := h.gw; omega), h.gw⟩
theorem LI.more {w wr : World} {B g : Nat} {a : Option Addr} {n cap K K' : Nat} {N : Int} {u v : Value} {l : List Int} (h : LI w wr B g a n cap K N u v l) (hK : K ≤ K') : LI w wr B g a n cap K' N u v l := ⟨h.st.more hK, h.gr, h.own, h.box, h.gw⟩
theorem LI.push {w wr w2 : World} {B g q cc : Nat} {a : Option Addr} {n cap K : Nat} {N x : Int} {u v' : Value} {l : List Int} (h : LI w wr B g a n cap K N u (.slice (some ⟨q, 0, none⟩) l.length cc) l) (hg : wr.grownBy w2 (some q)) (ho : w2.ownsRow (w.heap.size + 1) 3 1 v' (l.length + 1) (l.map iv ++ [iv x])) : LI w w2 B g a n cap K N u v' (l ++ [x]) := by
  have hq := World.ownsRow.lt h.own q rfl
  have hgw := h.gw
  exact ⟨st_row h.st hg (by omega), grown_row h.gr hg (by omega), IOwn.push ho, h.box.grown hg (by omega), h.gw⟩
theorem LI.set {w wr : World} {B g q cc : Nat} {a : Option Addr} {n cap K : Nat} {N : Int} {u : Value} {l : List Int} (h : LI w wr B g a n cap K N u (.slice (some ⟨q, 0, none⟩) l.length cc) l) (k : Nat) (x : Int) : LI w (wr.setCell ⟨q, k, none⟩ (iv x)) B g a n cap K N u (.slice (some ⟨q, 0, none⟩) (l.set k x).length cc) (l.set k x) := by
  have hq := World.ownsRow.lt h.own q rfl
  have hgw := h.gw
  have hbg := h.st.bg
  have ho := IOwn.set h.own rfl k x
  refine ⟨S1.st_far h.st (by omega) (by omega), S1.grown_setnew h.gr (by omega), ?_, h.box.other _ (by show w.heap.size ≠ q; omega), h.gw⟩
  simpa using ho
/-- What a drawn list is. -/
def LPost (B g : Nat) (a : Option Addr) (n cap K m : Nat) (w : World) (e : Ending) (w' : World) : Prop :=
  ∃ (q cc : Nat) (l : List Int), e = .returned (.slice (some ⟨q, 0, none⟩) l.length cc) ∧ l.length ≤ m ∧ IOwn w' (w.heap.size + 1) (.slice (some ⟨q, 0, none⟩) l.length cc) l ∧ S1.St B g a n cap K w' ∧ w.grownBy w' (some g)
theorem LI.post {w wr : World} {B g q cc k m K' : Nat} {a : Option Addr} {n cap K : Nat} {N : Int} {u : Value} {l : List Int} (h : LI w wr B g a n cap K N u (.slice (some ⟨q, 0, none⟩) l.length cc) l) (hl : l.length = k) (hm : k ≤ m) (hK : K ≤ K') : LPost B g a n cap K' m w (.returned (.slice (some ⟨q, 0, none⟩) k cc)) wr := by
  subst hl
  exact ⟨q, cc, l, rfl, hm, h.own, h.st.more hK, h.gr⟩

set_option maxHeartbeats 4000000 in
set_option maxRecDepth 100000 in
theorem demands_draw (B g : Nat) (a : Option Addr) (n cap K : Nat) (N : Int) (A : Option Addr) (len c : Nat) (w : World) (hK : K ≤ 800000) (hN9 : N ≤ 9) (h : S1.St B g a n cap K w) (hgw : g < w.heap.size) :
    Calls Try.prog 77 #[.pointer (some ⟨g, 0, none⟩), nv N A len c] w (LPost B g a n cap (K + 100) 10 w) := by
  have hBg := h.bg
  obtain ⟨i0, hi, hz0, hz1, hz2⟩ := info_parts infoI
  have HL0 := Lib.hid (show LI w ((w.alloc (nb N A len c)).alloc (.cells #[] 3)) B g a n cap K N (.slice A len c) (.slice (some ⟨w.heap.size + 1, 0, none⟩) 0 0) [] from by
    have h1 := own_empty (w.alloc (nb N A len c)) (w.heap.size + 1) (by simp)
    rw [size_alloc] at h1
    exact ⟨S1.st_new (S1.st_new h _) _, S1.grown_new (World.grownBy_alloc w _ (some g)) _, h1, (TN.made w _ _).below (alloc_below _ _), hgw⟩)
  clear h
  go_enter Try.func77, Try.ntmps77
  refine Hid.out ?_
  refine Lib.hid ?_
  go_wp2_with fail
  go_loopw [5, 6] (fun v nd wr => ∃ (k q cc : Nat) (l : List Int), nd = .int .i64 (1 + (k : Int)) ∧ k ≤ 9 ∧ l.length = k ∧ v = .slice (some ⟨q, 0, none⟩) k cc ∧ Hid (LI w wr B g a n cap (K + 2 * k) N (.slice A len c) (.slice (some ⟨q, 0, none⟩) l.length cc) l)) (fun _ nd _ => (12 - intOf nd).toNat)
  case atStart => exact ⟨0, w.heap.size + 1, 0, [], rfl, by omega, rfl, rfl, HL0⟩
  case round =>
    clear HL0
    obtain ⟨k, q, cc, l, rfl, hk9, hlk, rfl, HL⟩ := hrel
    obtain ⟨wo, hwo⟩ : ∃ wo, wo = wr := ⟨_, rfl⟩
    subst hwo
    obtain ⟨c0, c1⟩ := HL.out.box.cell
    have hbz := HL.out.box.lt
    have HLK := Lib.hid hlk
    clear hlk
    by_cases hlt : 1 + (k : Int) ≤ N
    · have hle : decide (1 + (k : Int) ≤ N) = true := decide_eq_true hlt
      have hk8 : k ≤ 8 := by omega
      have wk : IntKind.i64.wrap (1 + (k : Int) + 1) = 1 + (k : Int) + 1 := IntWalk.i64_in _ (by omega)
      have HQ := Lib.hid (World.ownsRow.lt HL.out.own q rfl)
      clear hlt
      refine Hid.out ?_
      refine Lib.hid ?_
      go_wp2_with (first
        | (go_at_call 150; refine (S1.among_any B g a n cap (K + 2 * k) wo.heap.size 7 7 [0, 1, 2, 5, 10, 30, 1000] _ rfl (by omega) (by simp) (by simp) (HL.out.alloc (.cells #[.int .i64 0, .int .i64 1, .int .i64 2, .int .i64 5, .int .i64 10, .int .i64 30, .int .i64 1000] 3)).st (fun j hj => S1.ti_new wo [0, 1, 2, 5, 10, 30, 1000] 3 j hj) (by omega)).mono ?_; rintro e w5 ⟨⟨z, rfl⟩, hs, hg⟩; refine Hid.out ?_)
        | fail)
      have HL5 := Lib.hid ((HL.out.alloc (.cells #[.int .i64 0, .int .i64 1, .int .i64 2, .int .i64 5, .int .i64 10, .int .i64 30, .int .i64 1000] 3)).call hs hg)
      have ho := HL5.out.own
      rw [HLK.out] at ho
      have hgz := HL5.out.gr.size
      clear hs hg c0 c1
      obtain ⟨d0, d1⟩ := HL5.out.box.cell
      have hdz := HL5.out.box.lt
      refine Lib.hid ?_
      go_wp2_with (first
        | (at_builtin; go_must (refine wpList_append_own _ rfl _ _ 27 rfl (w.heap.size + 1) 3 i0 (.int .i64 0) 1 8 Try.underlying27 hi hz0 hz1 hz2 rfl (by decide) _ _ _ rfl (ho.alloc _) ⟨w5.heap.size, 0, none⟩ 1 1 [iv z] rfl rfl (cell_one_new _ _ _) (by intro u hu; simp at hu; subst hu; rfl) (by have := HLK.out; unfold maxLen; omega) (by have := HLK.out; omega) (by have := HLK.out; simp; omega) ?_); intro v' w7 hown' hgrow hnil)
        | fail)
      have hg7 : (w5.alloc (.cells #[iv z] 3)).grownBy w7 (some q) := hgrow
      obtain ⟨q2, cc2, hv2, -⟩ := World.ownsRow.form hown' (by omega)
      subst hv2
      have HL7 := Lib.hid ((HL5.out.alloc (.cells #[iv z] 3)).push hg7 hown')
      clear hown' hgrow hnil ho HL5 hg7
      refine ⟨⟨k + 1, q2, cc2, l ++ [z], by go_num, by omega, by simp [HLK.out], by rw [HLK.out], Lib.hid ?_⟩, by simp [intOf]; omega⟩
      have hx := HL7.out
      have hlen : (l ++ [z]).length = l.length + 1 := by simp
      rw [hlen]
      exact hx.more (by omega)
    · have hle : decide (1 + (k : Int) ≤ N) = false := decide_eq_false hlt
      clear hlt
      refine Hid.out ?_
      refine Lib.hid ?_
      go_wp2_with fail
      case isTrue hk0 K0 aK0 =>
        go_wp2_with (first | (go_at_call 156; refine (S1.one_any B g a n cap (K + 2 * k) 20 _ (by omega) (by omega) (by omega) HL.out.st).mono ?_; rintro e w5 ⟨b5, rfl, hs, hg⟩; refine Hid.out ?_) | fail)
        have HL5 := Lib.hid (HL.out.call hs hg)
        clear hs hg
        cases b5 with
        | false =>
          refine Lib.hid ?_
          go_wp2_with (first | (go_at_call 156; refine (S1.one_any B g a n cap (K + 2 * k + 2) 24 _ (by omega) (by omega) (by omega) HL5.out.st).mono ?_; rintro e wt ⟨bt, rfl, hs, hg⟩; refine Hid.out ?_) | fail)
          have HLt := Lib.hid (HL5.out.call hs hg)
          clear hs hg
          cases bt with
          | false =>
            refine Lib.hid ?_
            go_wp2_with fail
            have hy := HLt.out.post HLK.out (m := 10) (K' := K + 100) (by omega) (by omega)
            go_ret
            exact hy
          | true =>
            have ho := HLt.out.own
            rw [HLK.out] at ho
            have hgz := HLt.out.gr.size
            refine Lib.hid ?_
            go_wp2_with (first
              | (at_builtin; go_must (refine wpList_append_own _ rfl _ _ 27 rfl (w.heap.size + 1) 3 i0 (.int .i64 0) 1 8 Try.underlying27 hi hz0 hz1 hz2 rfl (by decide) _ _ _ rfl (ho.alloc _) ⟨wt.heap.size, 0, none⟩ 1 1 [iv 1] rfl rfl (cell_one_new _ _ _) (by intro u hu; simp at hu; subst hu; rfl) (by have := HLK.out; unfold maxLen; omega) (by have := HLK.out; omega) (by have := HLK.out; simp; omega) ?_); intro v' w9 hown' hgrow hnil)
              | fail)
            have hg9 : (wt.alloc (.cells #[iv 1] 3)).grownBy w9 (some q) := hgrow
            obtain ⟨q2, cc2, hv2, -⟩ := World.ownsRow.form hown' (by omega)
            subst hv2
            have HL9 := Lib.hid ((HLt.out.alloc (.cells #[iv 1] 3)).push hg9 hown')
            clear hown' hgrow hnil ho HLt hg9
            have hlen : (l ++ [1]).length = l.length + 1 := by simp
            have hx := HL9.out
            rw [← hlen] at hx
            have hy := hx.post hlen (m := 10) (K' := K + 100) (by have := HLK.out; omega) (by omega)
            clear hx HL9
            go_wp2_with fail
            go_ret
            exact hy
        | true =>
          refine Lib.hid ?_
          go_wp2_with (first
            | (go_at_call 149; refine (S1.pick_any B g a n cap (K + 2 * k + 2) (k : Int) _ (by omega) (by omega) (by omega) HL5.out.st).mono ?_; rintro e w6 ⟨r, rfl, hr0, hr1, hs, hg⟩; refine Hid.out ?_)
            | fail)
          have HL6 := Lib.hid (HL5.out.call hs hg)
          clear hs hg
          refine Lib.hid ?_
          go_wp2_with (first
            | (go_at_call 150; refine (S1.among_any B g a n cap (K + 2 * k + 4) w6.heap.size 2 2 [-1, 1001] _ rfl (by omega) (by simp) (by simp) (HL6.out.alloc (.cells #[.int .i64 (-1), .int .i64 1001] 3)).st (fun j hj => S1.ti_new w6 [-1, 1001] 3 j hj) (by have := HL6.out.gr.size; omega)).mono ?_; rintro e w7 ⟨⟨z, rfl⟩, hs, hg⟩; refine Hid.out ?_)
            | fail)
          have HL7 := Lib.hid ((HL6.out.alloc (.cells #[.int .i64 (-1), .int .i64 1001] 3)).call hs hg)
          clear hs hg
          obtain ⟨rn, rfl⟩ : ∃ rn : Nat, r = (rn : Int) := ⟨r.toNat, by omega⟩
          have hrn : rn < l.length := by have := HLK.out; omega
          have ho := HL7.out.own
          unfold IOwn at ho
          have hfz := ho.frozenAt rn
          have hcz : w7.cell? ⟨q, rn, none⟩ = some (iv (l.getD rn 0)) := by rw [ho.cellAt rn (by omega)]; simp [List.getD, hrn]
          clear ho
          have HLW := Lib.hid (HL7.out.set rn z)
          have HLn := Lib.hid (show (l.set rn z).length = k by rw [List.length_set]; exact HLK.out)
          refine Lib.hid ?_
          go_wp2_with (first | (go_at_call 156; refine (S1.one_any B g a n cap (K + 2 * k + 6) 24 _ (by omega) (by omega) (by omega) HLW.out.st).mono ?_; rintro e wt ⟨bt, rfl, hs, hg⟩; refine Hid.out ?_) | fail)
          have HLt := Lib.hid (HLW.out.call hs hg)
          clear hs hg
          cases bt with
          | false =>
            refine Lib.hid ?_
            go_wp2_with fail
            have hy := HLt.out.post HLn.out (m := 10) (K' := K + 100) (by omega) (by omega)
            go_ret
            exact hy
          | true =>
            have ho := HLt.out.own
            rw [HLn.out] at ho
            have hgz := HLt.out.gr.size
            refine Lib.hid ?_
            go_wp2_with (first
              | (at_builtin; go_must (refine wpList_append_own _ rfl _ _ 27 rfl (w.heap.size + 1) 3 i0 (.int .i64 0) 1 8 Try.underlying27 hi hz0 hz1 hz2 rfl (by decide) _ _ _ rfl (ho.alloc _) ⟨wt.heap.size, 0, none⟩ 1 1 [iv 1] rfl rfl (cell_one_new _ _ _) (by intro u hu; simp at hu; subst hu; rfl) (by have := HLn.out; unfold maxLen; omega) (by have := HLn.out; omega) (by have := HLn.out; simp; omega) ?_); intro v' w9 hown' hgrow hnil)
              | fail)
            have hg9 : (wt.alloc (.cells #[iv 1] 3)).grownBy w9 (some q) := hgrow
            obtain ⟨q2, cc2, hv2, -⟩ := World.ownsRow.form hown' (by omega)
            subst hv2
            have HL9 := Lib.hid ((HLt.out.alloc (.cells #[iv 1] 3)).push hg9 hown')
            clear hown' hgrow hnil ho HLt hg9
            have hlen : ((l.set rn z) ++ [1]).length = (l.set rn z).length + 1 := by simp
            have hx := HL9.out
            rw [← hlen] at hx
            have hy := hx.post hlen (m := 10) (K' := K + 100) (by have := HLn.out; omega) (by omega)
            clear hx HL9
            go_wp2_with fail
            go_ret
            exact hy
      · skip
        refine Hid.out ?_
        refine Lib.hid ?_
        go_wp2_with (first | (go_at_call 156; refine (S1.one_any B g a n cap (K + 2 * k) 24 _ (by omega) (by omega) (by omega) HL.out.st).mono ?_; rintro e wt ⟨bt, rfl, hs, hg⟩; refine Hid.out ?_) | fail)
        have HLt := Lib.hid (HL.out.call hs hg)
        clear hs hg
        cases bt with
        | false =>
          refine Lib.hid ?_
          go_wp2_with fail
          have hy := HLt.out.post HLK.out (m := 10) (K' := K + 100) (by omega) (by omega)
          go_ret
          exact hy
        | true =>
          have ho := HLt.out.own
          rw [HLK.out] at ho
          have hgz := HLt.out.gr.size
          refine Lib.hid ?_
          go_wp2_with (first
            | (at_builtin; go_must (refine wpList_append_own _ rfl _ _ 27 rfl (w.heap.size + 1) 3 i0 (.int .i64 0) 1 8 Try.underlying27 hi hz0 hz1 hz2 rfl (by decide) _ _ _ rfl (ho.alloc _) ⟨wt.heap.size, 0, none⟩ 1 1 [iv 1] rfl rfl (cell_one_new _ _ _) (by intro u hu; simp at hu; subst hu; rfl) (by have := HLK.out; unfold maxLen; omega) (by have := HLK.out; omega) (by have := HLK.out; simp; omega) ?_); intro v' w9 hown' hgrow hnil)
            | fail)
          have hg9 : (wt.alloc (.cells #[iv 1] 3)).grownBy w9 (some q) := hgrow
          obtain ⟨q2, cc2, hv2, -⟩ := World.ownsRow.form hown' (by omega)
          subst hv2
          have HL9 := Lib.hid ((HLt.out.alloc (.cells #[iv 1] 3)).push hg9 hown')
          clear hown' hgrow hnil ho HLt hg9
          have hlen : (l ++ [1]).length = l.length + 1 := by simp
          have hx := HL9.out
          rw [← hlen] at hx
          have hy := hx.post hlen (m := 10) (K' := K + 100) (by have := HLK.out; omega) (by omega)
          clear hx HL9
          go_wp2_with fail
          go_ret
          exact hy
end Go.Proofs.Ytikppgbipdflbab.S2

namespace Go.Proofs.Ytikppgbipdflbab.S2
open Go.RowKit Go.Sort P2

theorem pip_cell {w : World} {A : Option Addr} {ps : List Pp} {i : Nat} (h : PAt w A ps) (hi : i < ps.length) : ∃ b off, A = some ⟨b, off, none⟩ ∧ b < w.heap.size ∧ w.cell? ⟨b, off + i * 4, none⟩ = some (.int .i64 (pAt ps i).id) := by
  rcases h with h0 | ⟨b, off, hA, hbl, hc⟩
  · rw [h0] at hi; exact absurd hi (Nat.not_lt_zero _)
  · exact ⟨b, off, hA, hbl, (hc i hi).1⟩
set_option maxHeartbeats 2000000 in
set_option maxRecDepth 100000 in
theorem pipe_draw (B g : Nat) (a : Option Addr) (n cap K : Nat) (N : Int) (A : Option Addr) (ps : List Pp) (c : Nat) (w : World) (hK : K ≤ 800000) (hD : DNet (g + 1) w N A c ps) (h : S1.St B g a n cap K w) :
    Calls Try.prog 125 #[.pointer (some ⟨g, 0, none⟩), nv N A ps.length c] w fun e w' => (∃ z : Int, e = .returned (.int .i64 z)) ∧ S1.St B g a n cap (K + 4) w' ∧ w.grownBy w' (some g) := by
  have HS := Lib.hid (S1.st_new h (nb N A ps.length c))
  have HG := Lib.hid (show w.grownBy (w.alloc (nb N A ps.length c)) (some g) from World.grownBy_alloc w _ (some g))
  have HT := Lib.hid (TN.made w (.int .i64 N) (.slice A ps.length c))
  have HD := Lib.hid (hD.on (alloc_below w (nb N A ps.length c)))
  have hlt := st_lt h
  have hps := hD.len
  clear h hD
  by_cases hz : ps.length = 0
  · rw [hz] at HS HG HT ⊢
    clear HD hps hz HT
    go_enter Try.func125, Try.ntmps125
    refine Hid.out ?_
    refine Lib.hid ?_
    go_wp2_with (first | (go_at_call 149; refine (S1.pick_any B g a n cap K 20 _ (by omega) (by omega) (by omega) HS.out).mono ?_; rintro e w9 ⟨r, rfl, hr0, hr9, hs9, hg9⟩; refine Hid.out ?_) | fail)
    refine Lib.hid ?_
    go_wp2_with fail
    go_ret
    exact ⟨⟨_, rfl⟩, hs9.more (by omega), S1.grown_trans HG.out hg9⟩
  · have d0 : decide (ps.length = 0) = false := decide_eq_false hz
    obtain ⟨c0, c1⟩ := HT.out.cell
    have hHt := HT.out.lt
    go_enter Try.func125, Try.ntmps125
    refine Hid.out ?_
    refine Lib.hid ?_
    go_wp2_with (first | (go_at_call 156; refine (S1.one_any B g a n cap K 10 _ (by omega) (by omega) (by omega) HS.out).mono ?_; rintro e w1 ⟨b1, rfl, hs, hg⟩; refine Hid.out ?_) | fail)
    have HS1 := Lib.hid hs
    have HG1 := Lib.hid (S1.grown_trans HG.out hg)
    have HT1 := Lib.hid (HT.out.grown hg (by omega))
    have HD1 := Lib.hid (HD.out.grown hg (by omega))
    obtain ⟨e0, e1⟩ := HT1.out.cell
    have hTz := HT1.out.lt
    clear hs hg c0 c1
    cases b1 with
    | true =>
      refine Lib.hid ?_
      go_wp2_with (first | (go_at_call 149; refine (S1.pick_any B g a n cap (K + 2) 20 _ (by omega) (by omega) (by omega) HS1.out).mono ?_; rintro e w9 ⟨r, rfl, hr0, hr9, hs9, hg9⟩; refine Hid.out ?_) | fail)
      refine Lib.hid ?_
      go_wp2_with fail
      go_ret
      exact ⟨⟨_, rfl⟩, hs9, S1.grown_trans HG1.out hg9⟩
    | false =>
      refine Lib.hid ?_
      go_wp2_with fail
      have hdr : w1.grownBy w1.drew (some g) := by have h := World.grownBy.refl w1 (some g); exact ⟨h.os, h.tape, h.output, h.size, h.block⟩
      have HSd := Lib.hid (show S1.St B g a n cap (K + 2) w1.drew from HS1.out.other ((Below.refl _ _).drew))
      have HGd := Lib.hid (show w.grownBy w1.drew (some g) from S1.grown_trans HG1.out hdr)
      have HTd := Lib.hid (show TN w1.drew w.heap.size (.int .i64 N) (.slice A ps.length c) from HT1.out.grown hdr (by omega))
      have HDd := Lib.hid (show DNet (g + 1) w1.drew N A c ps from HD1.out.grown hdr (by omega))
      go_region_with (first
        | (go_at_call 149; refine (S1.pick_any B g a n cap (K + 2) (ps.length : Int) _ (by omega) (by omega) (by omega) HSd.out).mono ?_; rintro e w9 ⟨r, rfl, hr0, hr9, hs9, hg9⟩; obtain ⟨rn, rfl⟩ : ∃ rn : Nat, r = (rn : Int) := ⟨r.toNat, by omega⟩; obtain ⟨b, off, hA, hbl, hc⟩ : ∃ b off, A = some ⟨b, off, none⟩ ∧ b < w9.heap.size ∧ w9.cell? ⟨b, off + rn * 4, none⟩ = some (.int .i64 (pAt ps rn).id) := pip_cell (HDd.out.grown hg9 (by omega)).pat (by omega); obtain ⟨f0, f1⟩ := (HTd.out.grown hg9 (by omega)).cell; have HS9 := Lib.hid hs9; have HG9 := Lib.hid (S1.grown_trans HGd.out hg9); subst hA; clear hs9 hg9)
        | fail)
      all_goals
        go_wp2
        go_ret
        exact ⟨⟨_, rfl⟩, HS9.out, HG9.out⟩
end Go.Proofs.Ytikppgbipdflbab.S2

namespace Go.Proofs.Ytikppgbipdflbab.S2
open Go.RowKit P2
theorem hasb_v {l : List Int} {x : Int} {v : Bool} (hv : hasB l x = v) (A : Option Addr) (cap : Nat) (w : World) (h : IAt w A l) (hn : l.length ≤ 1048576) :
    Calls Try.prog 110 #[.slice A l.length cap, .int .i64 x] w fun e w' => e = .returned (.bool v) ∧ w' = w := by rw [← hv]; exact has_any A cap l x w h hn
/-- What the loop keeps behind k pipes. -/
def SsR (ps : List Pp) (w wr : World) (N k g c : Nat) : Prop :=
  TB wr (w.heap.size + 1) (.int .i64 0) (.slice none 0 0) ∧ TB wr (w.heap.size + 1 + 1 + 1) (.int .i64 N) (.slice (some ⟨g, 0, none⟩) (spT ps k).length c) ∧ wr.ownsRow (w.heap.size + 1 + 1) 40 4 (.slice (some ⟨g, 0, none⟩) (spT ps k).length c) (spT ps k).length (pcs (spT ps k)) ∧ g ≠ w.heap.size + 1 + 1 + 1

set_option maxHeartbeats 4000000 in
set_option maxRecDepth 100000 in
theorem ssp_any (N : Nat) (A : Option Addr) (cap : Nat) (ps : List Pp) (w : World) (h : PAt w A ps) (hg : P2.Good N ps) :
    Calls Try.prog 133 #[nv N A ps.length cap] w fun e w' => ∃ g c, e = .returned (nv N (some ⟨g, 0, none⟩) (spL ps).length c) ∧ (spL ps).length ≤ c ∧ w.heap.size ≤ g ∧ PAt w' (some ⟨g, 0, none⟩) (spL ps) ∧ Below w.heap.size w w' := by
  have hN : N ≤ 8 := by have := hg.2.1; omega
  have hl10 := hg.2.2.1
  have HA := Lib.hid h
  have HG := Lib.hid hg
  have HDI := Lib.hid (fun (k t : Nat) (hk : k ≤ ps.length) A2 c2 w' (h2 : PAt w' A2 (spT ps k)) h3 h4 => sreach_any N t A2 c2 (spT ps k) w' h2 (spT_good hg k hk) h3 h4)
  obtain ⟨i0, hi0, hz0, hz1, hz2⟩ := info_parts infoP
  have HB4 := Lib.hid (show Below (w.heap.size + 1) (w.alloc (nb N A ps.length cap)) ((((w.alloc (nb N A ps.length cap)).alloc (nb 0 none 0 0)).alloc (.cells #[] 40)).alloc (nb N (some ⟨w.heap.size + 1 + 1, 0, none⟩) 0 0)) from (((Below.refl _ _).alloc (by simp) _).alloc (by simp) _).alloc (by simp) _)
  have HS0 := Lib.hid (show SsR ps w ((((w.alloc (nb N A ps.length cap)).alloc (nb 0 none 0 0)).alloc (.cells #[] 40)).alloc (nb N (some ⟨w.heap.size + 1 + 1, 0, none⟩) 0 0)) N 0 (w.heap.size + 1 + 1) 0 from by
    have x1 := ((TB.made (w.alloc (nb N A ps.length cap)) (.int .i64 0) (.slice none 0 0)).below ((Below.refl _ _).alloc (Nat.le_refl _) (.cells #[] 40))).below ((Below.refl _ _).alloc (Nat.le_refl _) (nb N (some ⟨w.heap.size + 1 + 1, 0, none⟩) 0 0))
    have x2 := TB.made (((w.alloc (nb N A ps.length cap)).alloc (nb 0 none 0 0)).alloc (.cells #[] 40)) (.int .i64 N) (.slice (some ⟨w.heap.size + 1 + 1, 0, none⟩) 0 0)
    have x3 := own_onP (own_emptyP ((w.alloc (nb N A ps.length cap)).alloc (nb 0 none 0 0)) (w.heap.size + 1 + 1) (by simp)) ((Below.refl _ _).alloc (Nat.le_refl _) (nb N (some ⟨w.heap.size + 1 + 1, 0, none⟩) 0 0))
    refine ⟨by simpa using x1, by simpa [spT] using x2, by simpa [spT, pcs] using x3, by omega⟩)
  clear h hg
  go_enter Try.func133, Try.ntmps133
  go_wp2
  go_loopw [4] (fun i wr => ∃ (k g c : Nat), k ≤ ps.length ∧ i = .int .i64 (k : Int) ∧ Hid (SsR ps w wr N k g c) ∧ Hid (Below (w.heap.size + 1) (w.alloc (nb N A ps.length cap)) wr)) (fun i _ => ps.length - (intOf i).toNat)
  case atStart => exact ⟨0, w.heap.size + 1 + 1, 0, Nat.zero_le _, rfl, HS0, HB4⟩
  case round =>
    clear HS0 HB4
    obtain ⟨k, g, c, hk, rfl, HS, HB⟩ := hrel
    obtain ⟨b0, b1⟩ := box2 HB.out
    have hz := box_lt HB.out
    obtain ⟨t0, t1⟩ := HS.out.2.1.cell
    have htl := HS.out.2.1.lt
    have hsl := spT_len ps k hk
    have hgw : w.heap.size + 1 + 1 ≤ g := (HS.out.2.2.1.lt g rfl).1
    have hgw2 : g < wr.heap.size := (HS.out.2.2.1.lt g rfl).2
    have hgT := HS.out.2.2.2
    by_cases hlt : k < ps.length
    · obtain ⟨b, off, hA, hbl, h0, h1, h2, h3⟩ := HA.out.at_ hlt
      subst hA
      have hbc : ∀ o, wr.cell? ⟨b, o, none⟩ = w.cell? ⟨b, o, none⟩ := fun o => (below_box HB.out).cell (p := ⟨b, o, none⟩) hbl
      have p0 := (hbc _).trans h0
      have p1 := (hbc _).trans h1
      have p2 := (hbc _).trans h2
      have p3 := (hbc _).trans h3
      have hmem : pAt ps k ∈ ps := by
        have e : pAt ps k = ps[k] := by simp [pAt, List.getD, hlt]
        rw [e]; exact List.getElem_mem hlt
      have hok := good_pp HG.out hmem
      have HY := Lib.hid (spT_same (ps := ps) (k := k))
      have HNo := Lib.hid (spT_more (ps := ps) (k := k))
      have hk0i : (0 : Int) ≤ (k : Int) := by omega
      have hk1i : (k : Int) < (ps.length : Int) := by omega
      unfold PpOk at hok
      clear hbc h0 h1 h2 h3 hmem
      generalize pAt ps k = p at *
      obtain ⟨pid, pfr, pto, psz⟩ := p
      simp only at hok p0 p1 p2 p3
      obtain ⟨fr, rfl⟩ : ∃ f : Nat, pfr = f := ⟨pfr.toNat, by omega⟩
      obtain ⟨tt, rfl⟩ : ∃ f : Nat, pto = f := ⟨pto.toNat, by omega⟩
      have hf1 : 1 ≤ fr := by omega
      have hf2 : fr ≤ N := by omega
      have ht1 : 1 ≤ tt := by omega
      have ht2 : tt ≤ N := by omega
      have hcl := conL_len N (spT ps k) fr
      obtain ⟨vb, hvb⟩ : ∃ vb, hasB (conL N (spT ps k) fr) tt = vb := ⟨_, rfl⟩
      have HH := Lib.hid hvb
      have HXC := Lib.hid (show vb = true ↔ Conn (spT ps k) (fr : Int) (tt : Int) from by rw [← hvb, has_con ht1 ht2, decide_eq_true_iff, dist_conn])
      clear hok hvb
      have hbw : b < wr.heap.size := by omega
      have hHQ := Lib.hid (own_patP (own_onP HS.out.2.2.1 (Below.refl _ _).drew))
      go_wp2
      refine wp_region_held_drew (S := fun w' => w'.cell? ⟨w.heap.size, 1, none⟩ = some (.slice (some ⟨b, off, none⟩) ps.length cap) ∧ w'.cell? ⟨w.heap.size + 1 + 1 + 1, 0, none⟩ = some (.int .i64 N) ∧ w'.cell? ⟨w.heap.size + 1 + 1 + 1, 1, none⟩ = some (.slice (some ⟨g, 0, none⟩) (spT ps k).length c) ∧ w'.cell? ⟨b, off + k * 4 + 1, none⟩ = some (.int .i64 (fr : Int)) ∧ w'.cell? ⟨b, off + k * 4 + 2, none⟩ = some (.int .i64 (tt : Int))) (by kernel_rfl) (by go_keep) (fun hHeld => ?_)
      refine wpAnyH_take (i := 0) (v := .agg #[.int .i64 N, .slice (some ⟨g, 0, none⟩) (spT ps k).length c]) rfl (by kernel_rfl) (by kernel_rfl) (by kernel_rfl) (fun _ _ _ h => h) (Or.inl ⟨by rfl, ?_⟩) (by assumption) ?_
      · (intro w hSw; (try dsimp only at hSw); go_simp)
      simp only [Act.put, List.setIfInBounds_toArray]
      refine wpAnyH_take (i := 1) (v := .pointer (some ⟨w.heap.size, 1, none⟩)) rfl (by kernel_rfl) (by kernel_rfl) (by kernel_rfl) (fun _ _ _ h => h) (Or.inl ⟨by rfl, ?_⟩) (by assumption) ?_
      · (intro w hSw; (try dsimp only at hSw); go_simp)
      simp only [Act.put]
      refine wpAnyH_take (i := 2) (v := .slice (some ⟨b, off, none⟩) ps.length cap) rfl (by kernel_rfl) (by kernel_rfl) (by kernel_rfl) (fun _ _ _ h => h) (Or.inl ⟨by rfl, ?_⟩) (by assumption) ?_
      · (intro w hSw; (try dsimp only at hSw); go_simp)
      simp only [Act.put]
      refine wpAnyH_take (i := 3) (v := .int .i64 (k : Int)) rfl (by kernel_rfl) (by kernel_rfl) (by kernel_rfl) (fun _ _ _ h => h) (Or.inl ⟨by rfl, ?_⟩) (by assumption) ?_
      · (intro w hSw; (try dsimp only at hSw); go_simp)
      simp only [Act.put]
      refine wpAnyH_take (i := 4) (v := .pointer (some ⟨b, off + k * 4, none⟩)) rfl (by kernel_rfl) (by kernel_rfl) (by kernel_rfl) (fun _ _ _ h => h) (Or.inl ⟨by rfl, ?_⟩) (by assumption) ?_
      · (intro w hSw; (try dsimp only at hSw); go_simp)
      simp only [Act.put]
      refine wpAnyH_take (i := 5) (v := .pointer (some ⟨b, off + k * 4 + 1, none⟩)) rfl (by kernel_rfl) (by kernel_rfl) (by kernel_rfl) (fun _ _ _ h => h) (Or.inl ⟨by rfl, ?_⟩) (by assumption) ?_
      · (intro w hSw; (try dsimp only at hSw); go_simp)
      simp only [Act.put]
      refine wpAnyH_take (i := 6) (v := .int .i64 (fr : Int)) rfl (by kernel_rfl) (by kernel_rfl) (by kernel_rfl) (fun _ _ _ h => h) (Or.inl ⟨by rfl, ?_⟩) (by assumption) ?_
      · (intro w hSw; (try dsimp only at hSw); go_simp)
      simp only [Act.put]
      refine wpAnyH_take (i := 8) (v := .pointer (some ⟨w.heap.size, 1, none⟩)) rfl (by kernel_rfl) (by kernel_rfl) (by kernel_rfl) (fun _ _ _ h => h) (Or.inl ⟨by rfl, ?_⟩) (by assumption) ?_
      · (intro w hSw; (try dsimp only at hSw); go_simp)
      simp only [Act.put]
      refine wpAnyH_take (i := 9) (v := .slice (some ⟨b, off, none⟩) ps.length cap) rfl (by kernel_rfl) (by kernel_rfl) (by kernel_rfl) (fun _ _ _ h => h) (Or.inl ⟨by rfl, ?_⟩) (by assumption) ?_
      · (intro w hSw; (try dsimp only at hSw); go_simp)
      simp only [Act.put]
      refine wpAnyH_take (i := 10) (v := .int .i64 (k : Int)) rfl (by kernel_rfl) (by kernel_rfl) (by kernel_rfl) (fun _ _ _ h => h) (Or.inl ⟨by rfl, ?_⟩) (by assumption) ?_
      · (intro w hSw; (try dsimp only at hSw); go_simp)
      simp only [Act.put]
      refine wpAnyH_take (i := 11) (v := .pointer (some ⟨b, off + k * 4, none⟩)) rfl (by kernel_rfl) (by kernel_rfl) (by kernel_rfl) (fun _ _ _ h => h) (Or.inl ⟨by rfl, ?_⟩) (by assumption) ?_
      · (intro w hSw; (try dsimp only at hSw); go_simp)
      simp only [Act.put]
      refine wpAnyH_take (i := 12) (v := .pointer (some ⟨b, off + k * 4 + 2, none⟩)) rfl (by kernel_rfl) (by kernel_rfl) (by kernel_rfl) (fun _ _ _ h => h) (Or.inl ⟨by rfl, ?_⟩) (by assumption) ?_
      · (intro w hSw; (try dsimp only at hSw); go_simp)
      simp only [Act.put]
      refine wpAnyH_take (i := 13) (v := .int .i64 (tt : Int)) rfl (by kernel_rfl) (by kernel_rfl) (by kernel_rfl) (fun _ _ _ h => h) (Or.inl ⟨by rfl, ?_⟩) (by assumption) ?_
      · (intro w hSw; (try dsimp only at hSw); go_simp)
      simp only [Act.put]
      refine wpAnyH_ready (rs := [7]) (by kernel_rfl) (by simp) ?_
      refine AllReadyH.cons rfl (fun K hK => ?_) AllReadyH.nil
      go_simp
      go_at_call 111
      refine (HDI.out k fr hk _ _ _ hHQ.out hf1 hf2).mono ?_
      rintro e w5 ⟨gR, oR, cR, rfl, hgR, hla, hbx⟩
      refine hK.out _ _ (by (rcases hHeld with ⟨q0, q1, q2, q3, q4⟩; exact ⟨(hbx.cell (p := ⟨w.heap.size, 1, none⟩) (by show w.heap.size < wr.heap.size; omega)).trans q0, (hbx.cell (p := ⟨w.heap.size + 1 + 1 + 1, 0, none⟩) htl).trans q1, (hbx.cell (p := ⟨w.heap.size + 1 + 1 + 1, 1, none⟩) htl).trans q2, (hbx.cell (p := ⟨b, off + k * 4 + 1, none⟩) hbw).trans q3, (hbx.cell (p := ⟨b, off + k * 4 + 2, none⟩) hbw).trans q4⟩)) (fun hHeld => ?_)
      clear hK K
      refine wpAnyH_ready (rs := [14]) (by kernel_rfl) (by simp) ?_
      refine AllReadyH.cons rfl (fun K hK => ?_) AllReadyH.nil
      go_simp
      go_at_call 110
      refine (hasb_v HH.out _ _ _ hla.iat (by omega)).mono ?_
      rintro e w7 ⟨rfl, hw7⟩
      replace hw7 := hw7.symm
      subst hw7
      refine hK.out _ _ (by first | assumption | exact hHeld) (fun hHeld => ?_)
      clear hK K
      refine wpAnyH_ready (rs := [15]) (by kernel_rfl) (by simp) ?_
      refine AllReadyH.cons rfl (fun K hK => ?_) AllReadyH.nil
      go_simp
      refine hK.out _ _ (by first | assumption | go_keep) (fun hHeld => ?_)
      clear hK K
      refine wpAnyH_done (by kernel_rfl) ?_ _
      obtain ⟨q0, q1, q2, q3, q4⟩ := hHeld
      have hby : Below wr.heap.size wr w5 := ((Below.refl wr.heap.size wr).drew).trans (show Below wr.heap.size wr.drew w5 from hbx)
      have HB5 := Lib.hid (on_call HB.out hby)
      have HS5 := Lib.hid (show SsR ps w w5 N k g c from ⟨HS.out.1.below hby, HS.out.2.1.below hby, own_onP HS.out.2.2.1 hby, HS.out.2.2.2⟩)
      have hs5 : wr.heap.size ≤ w5.heap.size := hby.size
      have bc : ∀ o, w5.cell? ⟨b, o, none⟩ = wr.cell? ⟨b, o, none⟩ := fun o => hby.cell (p := ⟨b, o, none⟩) hbw
      have r0 := (bc _).trans p0
      have r1 := (bc _).trans p1
      have r2 := (bc _).trans p2
      have r3 := (bc _).trans p3
      have x1 := (hby.cell (p := ⟨w.heap.size, 1, none⟩) hz).trans b1
      have hbw5 : b < w5.heap.size := by omega
      have hz5 : w.heap.size < w5.heap.size := by omega
      have htl5 : w.heap.size + 1 + 1 + 1 < w5.heap.size := by omega
      have f5 := HS5.out.2.1.frozen 1
      clear HB HS hbx hby hla hgR t0 t1 b0 b1 p0 p1 p2 p3 bc q1 q3 q4 hz htl hbw hHQ
      cases vb with
      | true =>
        have hs := Lib.hid (HY.out (HXC.out.1 rfl))
        have HS6 := Lib.hid (show SsR ps w w5 N (k + 1) g c from by unfold SsR; rw [hs.out]; exact HS5.out)
        obtain ⟨b0, b1⟩ := box2 HB5.out
        go_wp2
        go_roundw
        case rel => exact ⟨k + 1, g, c, by omega, by go_num, HS6, HB5⟩
        case measure => simp [intOf]; omega
      | false =>
        have hs := Lib.hid (HNo.out (fun hc => by have := HXC.out.2 hc; cases this))
        have ho := HS5.out.2.2.1
        have hobw : (Value.slice (some ⟨g, 0, none⟩) (spT ps k).length c).ownBlock = some g := rfl
        have hgb : b ≠ g := by omega
        have hgw0 : w.heap.size ≠ g := by omega
        have hl9 : (spT ps k).length ≤ 10 := by omega
        go_wp2
        refine wp_region_held_drew (S := fun w' => w'.cell? ⟨w.heap.size, 1, none⟩ = some (.slice (some ⟨b, off, none⟩) ps.length cap) ∧ w'.cell? ⟨b, off + k * 4, none⟩ = some (.int .i64 pid) ∧ w'.cell? ⟨b, off + k * 4 + 1, none⟩ = some (.int .i64 (fr : Int)) ∧ w'.cell? ⟨b, off + k * 4 + 2, none⟩ = some (.int .i64 (tt : Int)) ∧ w'.cell? ⟨b, off + k * 4 + 3, none⟩ = some (.int .i64 psz)) (by kernel_rfl) (by go_keep) (fun hHeld => ?_)
        refine wpAnyH_take (i := 0) (v := .pointer (some ⟨w.heap.size + 1 + 1 + 1, 1, none⟩)) rfl (by kernel_rfl) (by kernel_rfl) (by kernel_rfl) (fun _ _ _ h => h) (Or.inl ⟨by rfl, ?_⟩) (by assumption) ?_
        · (intro w hSw; (try dsimp only at hSw); go_simp)
        simp only [Act.put, List.setIfInBounds_toArray]
        refine wpAnyH_take (i := 2) (v := .pointer (some ⟨w.heap.size, 1, none⟩)) rfl (by kernel_rfl) (by kernel_rfl) (by kernel_rfl) (fun _ _ _ h => h) (Or.inl ⟨by rfl, ?_⟩) (by assumption) ?_
        · (intro w hSw; (try dsimp only at hSw); go_simp)
        simp only [Act.put]
        refine wpAnyH_take (i := 3) (v := .slice (some ⟨b, off, none⟩) ps.length cap) rfl (by kernel_rfl) (by kernel_rfl) (by kernel_rfl) (fun _ _ _ h => h) (Or.inl ⟨by rfl, ?_⟩) (by assumption) ?_
        · (intro w hSw; (try dsimp only at hSw); go_simp)
        simp only [Act.put]
        refine wpAnyH_take (i := 4) (v := .int .i64 (k : Int)) rfl (by kernel_rfl) (by kernel_rfl) (by kernel_rfl) (fun _ _ _ h => h) (Or.inl ⟨by rfl, ?_⟩) (by assumption) ?_
        · (intro w hSw; (try dsimp only at hSw); go_simp)
        simp only [Act.put]
        refine wpAnyH_take (i := 5) (v := .pointer (some ⟨b, off + k * 4, none⟩)) rfl (by kernel_rfl) (by kernel_rfl) (by kernel_rfl) (fun _ _ _ h => h) (Or.inl ⟨by rfl, ?_⟩) (by assumption) ?_
        · (intro w hSw; (try dsimp only at hSw); go_simp)
        simp only [Act.put]
        refine wpAnyH_take (i := 6) (v := .agg #[.int .i64 pid, .int .i64 (fr : Int), .int .i64 (tt : Int), .int .i64 psz]) rfl (by kernel_rfl) (by kernel_rfl) (by kernel_rfl) (fun _ _ _ h => h) (Or.inl ⟨by rfl, ?_⟩) (by assumption) ?_
        · (intro w hSw; (try dsimp only at hSw); go_simp)
        simp only [Act.put]
        refine wpAnyH_ready (rs := [1, 7]) (by kernel_rfl) (by simp) ?_
        refine AllReadyH.cons rfl (fun K hK => ?_) (AllReadyH.cons rfl (fun K hK => ?_) AllReadyH.nil)
        · go_simp
          refine hK.out _ _ (by first | assumption | go_keep) (fun hHeld => ?_)
          clear hK K
          refine wpAnyH_ready (rs := [7]) (by kernel_rfl) (by simp) ?_
          refine AllReadyH.cons rfl (fun K hK => ?_) AllReadyH.nil
          go_simp
          refine hK.out _ _ (by first | assumption | go_keep) (fun hHeld => ?_)
          clear hK K
          have hown5 := (ho.alloc (.cells #[.int .i64 pid, .int .i64 (fr : Int), .int .i64 (tt : Int), .int .i64 psz] 40)).drew
          refine wpAnyH_ready (rs := [8]) (by kernel_rfl) (by simp) ?_
          refine AllReadyH.cons rfl (fun K hK => ?_) AllReadyH.nil
          refine step_append_lies _ (by rfl) _ _ _ (by rfl) (w.heap.size + 1 + 1) 40 i0 _ 4 32 Try.underlying24 hi0 hz0 hz1 hz2 rfl (by omega) (.slice (some ⟨g, 0, none⟩) (spT ps k).length c) (spT ps k).length (pcs (spT ps k)) (by rfl) (hown5)
            ⟨w5.heap.size, 0, none⟩ 1 1 (pcs4 ⟨pid, fr, tt, psz⟩) (by rfl) (by rfl) (cells_new4 w5 _ _ _ _) (by intro u hu; simp [pcs4] at hu; rcases hu with rfl | rfl | rfl | rfl <;> rfl)
            (by omega) (by simp only [maxLen]; omega) (by omega) (by simp; omega) (w5.heap.size + 1) (by simp) ?_
          intro g3 c3 w7 hown' hgrow hat hlt7
          have hHeld2 := hHeld
          refine hK.out _ _ (by rcases hHeld2 with ⟨q0, q1, q2, q3, q4⟩; exact ⟨(hgrow.cell_far _ (by simp; omega) (by simp [Value.ownBlock]; omega)).trans q0, (hgrow.cell_far _ (by simp; omega) (by simp [Value.ownBlock]; omega)).trans q1, (hgrow.cell_far _ (by simp; omega) (by simp [Value.ownBlock]; omega)).trans q2, (hgrow.cell_far _ (by simp; omega) (by simp [Value.ownBlock]; omega)).trans q3, (hgrow.cell_far _ (by simp; omega) (by simp [Value.ownBlock]; omega)).trans q4⟩) (fun hHeld => ?_)
          clear hK K hHeld2
          have hbl5 : Below w5.heap.size w5 (w5.alloc (.cells #[.int .i64 pid, .int .i64 (fr : Int), .int .i64 (tt : Int), .int .i64 psz] 40)).drew := ((Below.refl w5.heap.size w5).alloc (Nat.le_refl _) (.cells #[.int .i64 pid, .int .i64 (fr : Int), .int .i64 (tt : Int), .int .i64 psz] 40)).drew
          have HT1 := Lib.hid ((HS5.out.1.below hbl5).grown (g := g) hgrow (by omega))
          have HT2 := Lib.hid ((HS5.out.2.1.below hbl5).grown (g := g) hgrow (by omega))
          have HB7 := Lib.hid ((HB5.out.alloc (by omega) (.cells #[.int .i64 pid, .int .i64 (fr : Int), .int .i64 (tt : Int), .int .i64 psz] 40)).drew.grown hgrow (by show w.heap.size + 1 ≤ (w5.alloc (.cells #[.int .i64 pid, .int .i64 (fr : Int), .int .i64 (tt : Int), .int .i64 psz] 40)).heap.size; simp; omega) (fun x hx => by have hx2 : g = x := (by simpa [Value.ownBlock] using hx); omega))
          have hg3 : g3 ≠ w.heap.size + 1 + 1 + 1 := by
            rcases hat with h | h
            · have hx2 : g = g3 := (by simpa [Value.ownBlock] using h)
              omega
            · omega
          have hown2 : w7.ownsRow (w.heap.size + 1 + 1) 40 4 (.slice (some ⟨g3, 0, none⟩) (spT ps (k + 1)).length c3) (spT ps (k + 1)).length (pcs (spT ps (k + 1))) := by
            rw [hs.out, pcs_snoc, List.length_append]
            exact hown'
          have hlen1 := Lib.hid (show (spT ps (k + 1)).length = (spT ps k).length + 1 from by rw [hs.out, List.length_append]; rfl)
          have f7 := HT2.out.frozen 1
          have c7 := HT2.out.cell.2
          have hT7 := HT2.out.lt
          have hne7 : w.heap.size + 1 + 1 + 1 ≠ b := by omega
          have hne8 : w.heap.size + 1 + 1 + 1 ≠ w.heap.size := by omega
          refine wpAnyH_ready (rs := [9]) (by kernel_rfl) (by simp) ?_
          refine AllReadyH.cons rfl (fun K hK => ?_) AllReadyH.nil
          go_simp
          refine hK.out _ _ (by first | assumption | go_keep) (fun hHeld => ?_)
          clear hK K
          refine wpAnyH_ready (rs := [10]) (by kernel_rfl) (by simp) ?_
          refine AllReadyH.cons rfl (fun K hK => ?_) AllReadyH.nil
          go_simp
          refine hK.out _ _ (by first | assumption | go_keep) (fun hHeld => ?_)
          clear hK K
          refine wpAnyH_done (by kernel_rfl) ?_ _
          have HS7 := Lib.hid (show SsR ps w (w7.setCell ⟨w.heap.size + 1 + 1 + 1, 1, none⟩ (.slice (some ⟨g3, 0, none⟩) (spT ps (k + 1)).length c3)) N (k + 1) g3 c3 from
            ⟨HT1.out.other _ (by show w.heap.size + 1 ≠ w.heap.size + 1 + 1 + 1; omega), HT2.out.set1 _, hown2.kept ⟨rfl, rfl, rfl, by simp, fun x hx hne => Below.heap_setCell _ _ _ _ (by intro e; exact hne (by rw [e]))⟩ (.inr (by simp [Value.ownBlock]; omega)), hg3⟩)
          have HB8 := Lib.hid (HB7.out.setCell (p := ⟨w.heap.size + 1 + 1 + 1, 1, none⟩) (by show w.heap.size + 1 ≤ w.heap.size + 1 + 1 + 1; omega) (.slice (some ⟨g3, 0, none⟩) (spT ps (k + 1)).length c3))
          rw [hlen1.out] at HS7 HB8
          clear hown' hgrow hat HT1 HT2 HB7 hown2 hown5 HS5 HB5 ho
          go_wp2
          go_roundw
          case rel => exact ⟨k + 1, g3, c3, by omega, by go_num, HS7, HB8⟩
          case measure => simp [intOf]; omega
        · go_simp
          refine hK.out _ _ (by first | assumption | go_keep) (fun hHeld => ?_)
          clear hK K
          refine wpAnyH_ready (rs := [1]) (by kernel_rfl) (by simp) ?_
          refine AllReadyH.cons rfl (fun K hK => ?_) AllReadyH.nil
          go_simp
          refine hK.out _ _ (by first | assumption | go_keep) (fun hHeld => ?_)
          clear hK K
          have hown5 := (ho.alloc (.cells #[.int .i64 pid, .int .i64 (fr : Int), .int .i64 (tt : Int), .int .i64 psz] 40)).drew
          refine wpAnyH_ready (rs := [8]) (by kernel_rfl) (by simp) ?_
          refine AllReadyH.cons rfl (fun K hK => ?_) AllReadyH.nil
          refine step_append_lies _ (by rfl) _ _ _ (by rfl) (w.heap.size + 1 + 1) 40 i0 _ 4 32 Try.underlying24 hi0 hz0 hz1 hz2 rfl (by omega) (.slice (some ⟨g, 0, none⟩) (spT ps k).length c) (spT ps k).length (pcs (spT ps k)) (by rfl) (hown5)
            ⟨w5.heap.size, 0, none⟩ 1 1 (pcs4 ⟨pid, fr, tt, psz⟩) (by rfl) (by rfl) (cells_new4 w5 _ _ _ _) (by intro u hu; simp [pcs4] at hu; rcases hu with rfl | rfl | rfl | rfl <;> rfl)
            (by omega) (by simp only [maxLen]; omega) (by omega) (by simp; omega) (w5.heap.size + 1) (by simp) ?_
          intro g3 c3 w7 hown' hgrow hat hlt7
          have hHeld2 := hHeld
          refine hK.out _ _ (by rcases hHeld2 with ⟨q0, q1, q2, q3, q4⟩; exact ⟨(hgrow.cell_far _ (by simp; omega) (by simp [Value.ownBlock]; omega)).trans q0, (hgrow.cell_far _ (by simp; omega) (by simp [Value.ownBlock]; omega)).trans q1, (hgrow.cell_far _ (by simp; omega) (by simp [Value.ownBlock]; omega)).trans q2, (hgrow.cell_far _ (by simp; omega) (by simp [Value.ownBlock]; omega)).trans q3, (hgrow.cell_far _ (by simp; omega) (by simp [Value.ownBlock]; omega)).trans q4⟩) (fun hHeld => ?_)
          clear hK K hHeld2
          have hbl5 : Below w5.heap.size w5 (w5.alloc (.cells #[.int .i64 pid, .int .i64 (fr : Int), .int .i64 (tt : Int), .int .i64 psz] 40)).drew := ((Below.refl w5.heap.size w5).alloc (Nat.le_refl _) (.cells #[.int .i64 pid, .int .i64 (fr : Int), .int .i64 (tt : Int), .int .i64 psz] 40)).drew
          have HT1 := Lib.hid ((HS5.out.1.below hbl5).grown (g := g) hgrow (by omega))
          have HT2 := Lib.hid ((HS5.out.2.1.below hbl5).grown (g := g) hgrow (by omega))
          have HB7 := Lib.hid ((HB5.out.alloc (by omega) (.cells #[.int .i64 pid, .int .i64 (fr : Int), .int .i64 (tt : Int), .int .i64 psz] 40)).drew.grown hgrow (by show w.heap.size + 1 ≤ (w5.alloc (.cells #[.int .i64 pid, .int .i64 (fr : Int), .int .i64 (tt : Int), .int .i64 psz] 40)).heap.size; simp; omega) (fun x hx => by have hx2 : g = x := (by simpa [Value.ownBlock] using hx); omega))
          have hg3 : g3 ≠ w.heap.size + 1 + 1 + 1 := by
            rcases hat with h | h
            · have hx2 : g = g3 := (by simpa [Value.ownBlock] using h)
              omega
            · omega
          have hown2 : w7.ownsRow (w.heap.size + 1 + 1) 40 4 (.slice (some ⟨g3, 0, none⟩) (spT ps (k + 1)).length c3) (spT ps (k + 1)).length (pcs (spT ps (k + 1))) := by
            rw [hs.out, pcs_snoc, List.length_append]
            exact hown'
          have hlen1 := Lib.hid (show (spT ps (k + 1)).length = (spT ps k).length + 1 from by rw [hs.out, List.length_append]; rfl)
          have f7 := HT2.out.frozen 1
          have c7 := HT2.out.cell.2
          have hT7 := HT2.out.lt
          have hne7 : w.heap.size + 1 + 1 + 1 ≠ b := by omega
          have hne8 : w.heap.size + 1 + 1 + 1 ≠ w.heap.size := by omega
          refine wpAnyH_ready (rs := [9]) (by kernel_rfl) (by simp) ?_
          refine AllReadyH.cons rfl (fun K hK => ?_) AllReadyH.nil
          go_simp
          refine hK.out _ _ (by first | assumption | go_keep) (fun hHeld => ?_)
          clear hK K
          refine wpAnyH_ready (rs := [10]) (by kernel_rfl) (by simp) ?_
          refine AllReadyH.cons rfl (fun K hK => ?_) AllReadyH.nil
          go_simp
          refine hK.out _ _ (by first | assumption | go_keep) (fun hHeld => ?_)
          clear hK K
          refine wpAnyH_done (by kernel_rfl) ?_ _
          have HS7 := Lib.hid (show SsR ps w (w7.setCell ⟨w.heap.size + 1 + 1 + 1, 1, none⟩ (.slice (some ⟨g3, 0, none⟩) (spT ps (k + 1)).length c3)) N (k + 1) g3 c3 from
            ⟨HT1.out.other _ (by show w.heap.size + 1 ≠ w.heap.size + 1 + 1 + 1; omega), HT2.out.set1 _, hown2.kept ⟨rfl, rfl, rfl, by simp, fun x hx hne => Below.heap_setCell _ _ _ _ (by intro e; exact hne (by rw [e]))⟩ (.inr (by simp [Value.ownBlock]; omega)), hg3⟩)
          have HB8 := Lib.hid (HB7.out.setCell (p := ⟨w.heap.size + 1 + 1 + 1, 1, none⟩) (by show w.heap.size + 1 ≤ w.heap.size + 1 + 1 + 1; omega) (.slice (some ⟨g3, 0, none⟩) (spT ps (k + 1)).length c3))
          rw [hlen1.out] at HS7 HB8
          clear hown' hgrow hat HT1 HT2 HB7 hown2 hown5 HS5 HB5 ho
          go_wp2
          go_roundw
          case rel => exact ⟨k + 1, g3, c3, by omega, by go_num, HS7, HB8⟩
          case measure => simp [intOf]; omega
    · have hkk : k = ps.length := by omega
      subst hkk
      have HP := Lib.hid (own_patP HS.out.2.2.1)
      obtain ⟨s0, s1⟩ := HS.out.1.cell
      have hsl1 := HS.out.1.lt
      have g0 := HS.out.1.frozen 0
      have g1 := HS.out.1.frozen 1
      have hcc : (spT ps ps.length).length ≤ c := by
        rcases HS.out.2.2.1.2 with ⟨hv, _⟩ | ⟨g', cap', cur, hv, _, _, hcap, _⟩
        · cases hv
        · injection hv with h1 h2 h3
          omega
      go_wp2
      refine bodyPost_ret (v := nv N (some ⟨g, 0, none⟩) (spL ps).length c) (by simp [results, Try.results133, go_sem, s0, s1]; rfl) rfl ⟨g, c, rfl, hcc, by omega, ?_, ?_⟩
      · exact pat_set1 (pat_set1 HP.out (by show w.heap.size + 1 ≠ g; omega)) (by show w.heap.size + 1 ≠ g; omega)
      · exact ((below_box HB.out).setCell (p := ⟨w.heap.size + 1, 0, none⟩) (by show w.heap.size ≤ w.heap.size + 1; omega) _).setCell (p := ⟨w.heap.size + 1, 1, none⟩) (by show w.heap.size ≤ w.heap.size + 1; omega) _
end Go.Proofs.Ytikppgbipdflbab.S2

namespace Go.Proofs.Ytikppgbipdflbab.S2
open Go.RowKit Go.Sort P2

theorem grown_of {w w' : World} {g : Nat} (h : Below w.heap.size w w') : w.grownBy w' (some g) := ⟨h.os, h.tape, h.output, h.size, fun k hk _ => h.block k hk⟩
/-- A drawn network whose pipes are only read: its row lies at or above B. -/
structure TNet (B : Nat) (w : World) (N : Int) (A : Option Addr) (c : Nat) (ps : List Pp) : Prop where
  n0 : 0 ≤ N
  n9 : N ≤ 9
  len : ps.length ≤ 12
  cap : ps.length ≤ c
  pat : PAt w A ps
  far : ∀ b off, A = some ⟨b, off, none⟩ → B ≤ b
theorem TNet.of {B : Nat} {w : World} {N : Int} {A : Option Addr} {c : Nat} {ps : List Pp} (h : DNet B w N A c ps) : TNet B w N A c ps :=
  ⟨h.n0, h.n9, h.len, h.cap, h.pat, fun b off e => by subst e; exact (h.own.lt b rfl).1⟩
theorem TNet.on {B : Nat} {w w' : World} {N : Int} {A : Option Addr} {c : Nat} {ps : List Pp} (h : TNet B w N A c ps) (hb : Below w.heap.size w w') : TNet B w' N A c ps := ⟨h.n0, h.n9, h.len, h.cap, h.pat.kept hb (Nat.le_refl _), h.far⟩
theorem TNet.call {B g : Nat} {w w' : World} {N : Int} {A : Option Addr} {c : Nat} {ps : List Pp} (h : TNet B w N A c ps) (hg : w.grownBy w' (some g)) (hB : g < B) : TNet B w' N A c ps := by
  refine ⟨h.n0, h.n9, h.len, h.cap, ?_, h.far⟩
  rcases h.pat with h0 | ⟨b, off, hA, hlt, hc⟩
  · exact .inl h0
  · have hf := h.far b off hA
    have hk : ∀ o, w'.cell? ⟨b, o, none⟩ = w.cell? ⟨b, o, none⟩ := fun o => hg.cell_far ⟨b, o, none⟩ hlt (by simp; omega)
    refine .inr ⟨b, off, hA, Nat.lt_of_lt_of_le hlt hg.size, fun i hi => ?_⟩
    obtain ⟨h0, h1, h2, h3⟩ := hc i hi
    exact ⟨(hk _).trans h0, (hk _).trans h1, (hk _).trans h2, (hk _).trans h3⟩
/-- A network under way that is only read: the cursor, what has changed, the network, its box, the result's box. -/
structure TI (w wr : World) (B g : Nat) (a : Option Addr) (n cap K T : Nat) (N : Int) (A : Option Addr) (c : Nat) (ps : List Pp) : Prop where
  st : S1.St B g a n cap K wr
  gr : w.grownBy wr (some g)
  net : TNet (w.heap.size + 1) wr N A c ps
  box : TN wr T (.int .i64 N) (.slice A ps.length c)
  res : TN wr w.heap.size (.int .i64 0) (.slice none 0 0)
  gw : g < w.heap.size
  tw : w.heap.size < T
theorem TI.quiet {w wr w2 : World} {B g : Nat} {a : Option Addr} {n cap K T : Nat} {N : Int} {A : Option Addr} {c : Nat} {ps : List Pp} (h : TI w wr B g a n cap K T N A c ps) (hb : Below wr.heap.size wr w2) : TI w w2 B g a n cap K T N A c ps :=
  ⟨h.st.other hb, S1.grown_trans h.gr (grown_of hb), h.net.on hb, h.box.below hb, h.res.below hb, h.gw, h.tw⟩
theorem TI.call {w wr w2 : World} {B g : Nat} {a : Option Addr} {n cap K K' T : Nat} {N : Int} {A : Option Addr} {c : Nat} {ps : List Pp} (h : TI w wr B g a n cap K T N A c ps) (hs : S1.St B g a n cap K' w2) (hg : wr.grownBy w2 (some g)) : TI w w2 B g a n cap K' T N A c ps :=
  ⟨hs, S1.grown_trans h.gr hg, h.net.call hg (by have := h.gw; omega), h.box.grown hg (by have := h.gw; have := h.tw; omega), h.res.grown hg (by have := h.gw; omega), h.gw, h.tw⟩
theorem TNet.set {B : Nat} {w : World} {N : Int} {A : Option Addr} {c : Nat} {ps : List Pp} (h : TNet B w N A c ps) (b i : Nat) (u : Value) (hb : b < B) : TNet B (w.setCell ⟨b, i, none⟩ u) N A c ps := by
  refine ⟨h.n0, h.n9, h.len, h.cap, ?_, h.far⟩
  rcases h.pat with h0 | ⟨b', off, hA, hlt, hc⟩
  · exact .inl h0
  · have hf := h.far b' off hA
    have hk : ∀ o, (w.setCell ⟨b, i, none⟩ u).cell? ⟨b', o, none⟩ = w.cell? ⟨b', o, none⟩ := fun o => World.cell?_setCell_far w ⟨b, i, none⟩ _ _ (by show b ≠ b'; omega)
    refine .inr ⟨b', off, hA, by simpa using hlt, fun k hk' => ?_⟩
    obtain ⟨h0, h1, h2, h3⟩ := hc k hk'
    exact ⟨(hk _).trans h0, (hk _).trans h1, (hk _).trans h2, (hk _).trans h3⟩
def TPost (B g : Nat) (a : Option Addr) (n cap K : Nat) (w : World) (e : Ending) (w' : World) : Prop :=
  ∃ N A c ps, e = .returned (nv N A ps.length c) ∧ TNet (w.heap.size + 1) w' N A c ps ∧ S1.St B g a n cap K w' ∧ w.grownBy w' (some g)
theorem TI.done {w wr : World} {B g : Nat} {a : Option Addr} {n cap K K' T : Nat} {N : Int} {A : Option Addr} {c : Nat} {ps : List Pp} (h : TI w wr B g a n cap K T N A c ps) (hK : K ≤ K') : TPost B g a n cap K' w (.returned (nv N A ps.length c)) ((wr.setCell ⟨w.heap.size, 0, none⟩ (.int .i64 N)).setCell ⟨w.heap.size, 1, none⟩ (.slice A ps.length c)) := by
  have hg : w.heap.size ≠ g := by have := h.gw; omega
  have hB : B ≤ w.heap.size := by have := h.gw; have := h.st.bg; omega
  exact ⟨N, A, c, ps, rfl, (h.net.set _ _ _ (by omega)).set _ _ _ (by omega), (S1.st_far (S1.st_far h.st hg hB) hg hB).more hK, S1.grown_setnew (S1.grown_setnew h.gr (Nat.le_refl _)) (Nat.le_refl _)⟩
theorem TNet.low {B B' : Nat} {w : World} {N : Int} {A : Option Addr} {c : Nat} {ps : List Pp} (h : TNet B w N A c ps) (hB : B' ≤ B) : TNet B' w N A c ps := ⟨h.n0, h.n9, h.len, h.cap, h.pat, fun b off e => by have := h.far b off e; omega⟩
theorem TI.spun {w wr : World} {B g : Nat} {a a' : Option Addr} {n cap K K' T : Nat} {N : Int} {A : Option Addr} {c c' : Nat} {ps qs : List Pp} (h : TI w wr B g a n cap K T N A c ps) (hK : K ≤ K') (hn : TNet (T + 1) wr N a' c' qs) : TPost B g a n cap K' w (.returned (nv N a' qs.length c')) ((((wr.setCell ⟨T, 0, none⟩ (.int .i64 N)).setCell ⟨T, 1, none⟩ (.slice a' qs.length c')).setCell ⟨w.heap.size, 0, none⟩ (.int .i64 N)).setCell ⟨w.heap.size, 1, none⟩ (.slice a' qs.length c')) := by
  have hgw := h.gw
  have htw := h.tw
  have hbg := h.st.bg
  have hg : w.heap.size ≠ g := by omega
  have hB : B ≤ w.heap.size := by omega
  have hg2 : T ≠ g := by omega
  have hB2 : B ≤ T := by omega
  have hw2 : w.heap.size ≤ T := by omega
  exact ⟨N, a', c', qs, rfl, ((((hn.set _ _ _ (by omega)).set _ _ _ (by omega)).set _ _ _ (by omega)).set _ _ _ (by omega)).low (by omega), (S1.st_far (S1.st_far (S1.st_far (S1.st_far h.st hg2 hB2) hg2 hB2) hg hB) hg hB).more hK, S1.grown_setnew (S1.grown_setnew (S1.grown_setnew (S1.grown_setnew h.gr hw2) hw2) (Nat.le_refl _)) (Nat.le_refl _)⟩
theorem good_v {n : Int} {ps : List Pp} {v : Bool} (hv : goodB n ps = v) (A : Option Addr) (cap : Nat) (w : World) (h : PAt w A ps) (hl : ps.length ≤ 12) :
    Calls Try.prog 114 #[nv n A ps.length cap] w fun e w' => e = .returned (.bool v) ∧ Below w.heap.size w w' := by
  rw [← hv]
  exact sgood_any n A cap ps w h (by unfold maxLen; omega)
set_option maxHeartbeats 2000000 in
set_option maxRecDepth 100000 in
theorem tree_draw (B g : Nat) (a : Option Addr) (n cap K : Nat) (w : World) (hK : K ≤ 600000) (h : S1.St B g a n cap K w) (hgw : g < w.heap.size) :
    Calls Try.prog 75 #[.pointer (some ⟨g, 0, none⟩)] w (TPost B g a n cap (K + 1000) w) := by
  have HS1 := Lib.hid (S1.st_new h (nb 0 none 0 0))
  clear h
  go_enter Try.func75, Try.ntmps75
  refine Hid.out ?_
  refine Lib.hid ?_
  go_wp2_with (first | (go_at_call 157; refine (anynet_any B g a n cap K _ (by omega) HS1.out (by simp; omega)).mono ?_; rintro e w1 hpost; obtain ⟨N, A, c, ps, rfl, hd, hs, hg⟩ := DNet.of hpost; refine Hid.out ?_) | fail)
  have HRB := ((TN.made w (.int .i64 0) (.slice none 0 0))).grown hg (by omega)
  refine Lib.hid ?_
  go_wp2_with fail
  have hw1 : w.heap.size + 1 ≤ w1.heap.size := by have := hg.size; simp at this; omega
  have HI := Lib.hid (show TI w ((w1.alloc (nb N A ps.length c)).drew) B g a n cap (K + 400) w1.heap.size N A c ps from
    TI.quiet (wr := w1.alloc (nb N A ps.length c)) ⟨S1.st_new hs _, S1.grown_new (S1.grown_trans (World.grownBy_alloc w _ (some g)) hg) _, (TNet.of (hd.low (by simp))).on (alloc_below _ _), TN.made w1 _ _, HRB.below (alloc_below _ _), hgw, by omega⟩ ((Below.refl _ _).drew))
  clear hd hs hg HRB hpost
  have hpl := HI.out.net.len
  have hK4 : K + 400 ≤ 900000 := by omega
  have hK9 : K + 400 + 2 ≤ K + 1000 := by omega
  obtain ⟨x0, x1⟩ := HI.out.box.cell
  by_cases hgd : goodB N ps = true
  · skip
    obtain ⟨M, rfl⟩ : ∃ M : Nat, N = (M : Int) := ⟨N.toNat, by have := HI.out.net.n0; omega⟩
    have hG := good_of hgd
    have hM8 : M ≤ 8 := by have := hG.2.1; omega
    have hM1 : 1 ≤ M := by have := hG.1; omega
    have hcl : (conL M ps ((1 : Nat) : Int)).length ≤ M + 1 := conL_len M ps 1
    have HC := Lib.hid (good_v hgd A c _ HI.out.net.pat hpl)
    obtain ⟨C, hC⟩ : ∃ C, conL M ps ((1 : Nat) : Int) = C := ⟨_, rfl⟩
    rw [hC] at hcl
    clear hgd
    by_cases hn : C.length = M
    · have g2 : ((C.length : Int) == (M : Int)) = true := beq_iff_eq.2 (by omega)
      clear hn
      refine wp_region_held_drew (S := fun w' => w'.cell? ⟨w1.heap.size, 0, none⟩ = some (.int .i64 (M : Int)) ∧ w'.cell? ⟨w1.heap.size, 1, none⟩ = some (.slice A ps.length c)) (by kernel_rfl) (by go_keep) (fun hHeld => ?_)
      refine wpAnyH_take (i := 0) (v := .agg #[.int .i64 (M : Int), .slice A ps.length c]) rfl (by kernel_rfl) (by kernel_rfl) (by kernel_rfl) (fun _ _ _ h => h) (Or.inl ⟨by rfl, ?_⟩) (by assumption) ?_
      · (intro w hSw; (try dsimp only at hSw); go_simp)
      simp only [Act.put, List.setIfInBounds_toArray]
      refine wpAnyH_ready (rs := [1]) (by kernel_rfl) (by simp) ?_
      refine AllReadyH.cons rfl (fun K hK => ?_) AllReadyH.nil
      go_simp
      go_at_call 114
      refine HC.out.mono ?_
      rintro e w2 ⟨rfl, hb2⟩
      have HI2 := Lib.hid (HI.out.quiet hb2)
      refine hK.out _ _ (by exact HI2.out.box.cell) (fun hHeld => ?_)
      clear hK K
      refine wpAnyH_ready (rs := [2]) (by kernel_rfl) (by simp) ?_
      refine AllReadyH.cons rfl (fun K hK => ?_) AllReadyH.nil
      go_simp
      refine hK.out _ _ (by first | assumption | go_keep) (fun hHeld => ?_)
      clear hK K
      refine wpAnyH_take (i := 3) (v := .agg #[.int .i64 (M : Int), .slice A ps.length c]) rfl (by kernel_rfl) (by kernel_rfl) (by kernel_rfl) (fun _ _ _ h => h) (Or.inl ⟨by rfl, ?_⟩) (by assumption) ?_
      · (intro w hSw; (try dsimp only at hSw); go_simp)
      simp only [Act.put]
      refine wpAnyH_take (i := 6) (v := .pointer (some ⟨w1.heap.size, 0, none⟩)) rfl (by kernel_rfl) (by kernel_rfl) (by kernel_rfl) (fun _ _ _ h => h) (Or.inl ⟨by rfl, ?_⟩) (by assumption) ?_
      · (intro w hSw; (try dsimp only at hSw); go_simp)
      simp only [Act.put]
      refine wpAnyH_take (i := 7) (v := .int .i64 (M : Int)) rfl (by kernel_rfl) (by kernel_rfl) (by kernel_rfl) (fun _ _ _ h => h) (Or.inl ⟨by rfl, ?_⟩) (by assumption) ?_
      · (intro w hSw; (try dsimp only at hSw); go_simp)
      simp only [Act.put]
      refine wpAnyH_ready (rs := [4]) (by kernel_rfl) (by simp) ?_
      refine AllReadyH.cons rfl (fun K hK => ?_) AllReadyH.nil
      go_simp
      go_at_call 111
      refine (show Calls Try.prog 111 #[nv (M : Int) A ps.length c, .int .i64 1] w2 _ from sreach_any M 1 A c ps w2 HI2.out.net.pat hG (by omega) (by omega)).mono ?_
      rintro e w3 ⟨gr, o, capr, rfl, hgg, ho, hb3⟩
      have HI3 := Lib.hid (HI2.out.quiet hb3)
      rw [hC]
      refine hK.out _ _ (by exact HI3.out.box.cell) (fun hHeld => ?_)
      clear hK K
      refine wpAnyH_ready (rs := [5]) (by kernel_rfl) (by simp) ?_
      refine AllReadyH.cons rfl (fun K hK => ?_) AllReadyH.nil
      go_simp
      refine hK.out _ _ (by first | assumption | go_keep) (fun hHeld => ?_)
      clear hK K
      refine wpAnyH_ready (rs := [8]) (by kernel_rfl) (by simp) ?_
      refine AllReadyH.cons rfl (fun K hK => ?_) AllReadyH.nil
      go_simp
      refine hK.out _ _ (by first | assumption | go_keep) (fun hHeld => ?_)
      clear hK K
      refine wpAnyH_ready (rs := [9]) (by kernel_rfl) (by simp) ?_
      refine AllReadyH.cons rfl (fun K hK => ?_) AllReadyH.nil
      go_simp
      refine hK.out _ _ (by first | assumption | go_keep) (fun hHeld => ?_)
      clear hK K
      refine wpAnyH_ready (rs := [10]) (by kernel_rfl) (by simp) ?_
      refine AllReadyH.cons rfl (fun K hK => ?_) AllReadyH.nil
      go_simp
      refine hK.out _ _ (by first | assumption | go_keep) (fun hHeld => ?_)
      clear hK K
      refine wpAnyH_ready (rs := [11]) (by kernel_rfl) (by simp) ?_
      refine AllReadyH.cons rfl (fun K hK => ?_) AllReadyH.nil
      go_simp
      refine hK.out _ _ (by first | assumption | go_keep) (fun hHeld => ?_)
      clear hK K
      refine wpAnyH_ready (rs := [12]) (by kernel_rfl) (by simp) ?_
      refine AllReadyH.cons rfl (fun K hK => ?_) AllReadyH.nil
      go_simp
      go_at_call 156
      refine (S1.one_any B g a n cap _ 5 _ hK4 (by omega) (by omega) HI3.out.st).mono ?_
      rintro e w4 ⟨b4, rfl, hs4, hg4⟩
      have HI4 := Lib.hid (HI3.out.call hs4 hg4)
      refine hK.out _ _ (by exact HI4.out.box.cell) (fun hHeld => ?_)
      clear hK K
      refine wpAnyH_ready (rs := [13]) (by kernel_rfl) (by simp) ?_
      refine AllReadyH.cons rfl (fun K hK => ?_) AllReadyH.nil
      go_simp
      refine hK.out _ _ (by first | assumption | go_keep) (fun hHeld => ?_)
      clear hK K
      refine wpAnyH_ready (rs := [14]) (by kernel_rfl) (by simp) ?_
      refine AllReadyH.cons rfl (fun K hK => ?_) AllReadyH.nil
      go_simp
      refine hK.out _ _ (by first | assumption | go_keep) (fun hHeld => ?_)
      clear hK K
      refine wpAnyH_done (by kernel_rfl) ?_ _
      clear hHeld
      cases b4 with
      | true =>
        obtain ⟨q0, q1⟩ := HI4.out.box.cell
        obtain ⟨s0, s1⟩ := HI4.out.res.cell
        have hsl := HI4.out.res.lt
        have hTl := HI4.out.box.lt
        have hsf := HI4.out.res.frozen
        have f0 := hsf 0
        have f1 := hsf 1
        go_wp2
        refine bodyPost_ret (v := nv (M : Int) A ps.length c) (by simp [results, Try.results75, go_sem, s0, s1]) rfl (HI4.out.done (by omega))
      | false =>
        have hSP := Lib.hid (ssp_any M A c ps w4 HI4.out.net.pat hG)
        obtain ⟨q0, q1⟩ := HI4.out.box.cell
        have hTl := HI4.out.box.lt
        go_wp2_with (first | (go_at_call 133; refine hSP.out.mono ?_; rintro e w5 ⟨g5, c5, rfl, hc5, hg5, hp5, hb5⟩; refine Hid.out ?_) | fail)
        have HI5 := Lib.hid (HI4.out.quiet hb5)
        have HN5 := Lib.hid (show TNet (w1.heap.size + 1) w5 (M : Int) (some ⟨g5, 0, none⟩) c5 (spL ps) from ⟨HI4.out.net.n0, HI4.out.net.n9, Nat.le_trans (show (spL ps).length ≤ ps.length from spT_len ps ps.length (Nat.le_refl _)) hpl, hc5, hp5, fun b off e => by injection e with e; injection e with e1; omega⟩)
        clear hp5 hb5 q0 q1
        obtain ⟨q0, q1⟩ := HI5.out.box.cell
        obtain ⟨s0, s1⟩ := HI5.out.res.cell
        have hsl := HI5.out.res.lt
        have hTl5 := HI5.out.box.lt
        have htw := HI5.out.tw
        have hsf := HI5.out.res.frozen
        have hbf := HI5.out.box.frozen
        have f0 := hsf 0
        have f1 := hsf 1
        have b0 := hbf 0
        have b1 := hbf 1
        have hne1 : w.heap.size ≠ w1.heap.size := by omega
        refine Lib.hid ?_
        go_wp2
        refine bodyPost_ret (v := nv (M : Int) (some ⟨g5, 0, none⟩) (spL ps).length c5) (by simp [results, Try.results75, go_sem, s0, s1]) rfl (HI5.out.spun hK9 HN5.out)
    have g2 : ((C.length : Int) == (M : Int)) = false := beq_eq_false_iff_ne.2 (by omega)
    clear hn
    refine wp_region_held_drew (S := fun w' => w'.cell? ⟨w1.heap.size, 0, none⟩ = some (.int .i64 (M : Int)) ∧ w'.cell? ⟨w1.heap.size, 1, none⟩ = some (.slice A ps.length c)) (by kernel_rfl) (by go_keep) (fun hHeld => ?_)
    refine wpAnyH_take (i := 0) (v := .agg #[.int .i64 (M : Int), .slice A ps.length c]) rfl (by kernel_rfl) (by kernel_rfl) (by kernel_rfl) (fun _ _ _ h => h) (Or.inl ⟨by rfl, ?_⟩) (by assumption) ?_
    · (intro w hSw; (try dsimp only at hSw); go_simp)
    simp only [Act.put, List.setIfInBounds_toArray]
    refine wpAnyH_ready (rs := [1]) (by kernel_rfl) (by simp) ?_
    refine AllReadyH.cons rfl (fun K hK => ?_) AllReadyH.nil
    go_simp
    go_at_call 114
    refine HC.out.mono ?_
    rintro e w2 ⟨rfl, hb2⟩
    have HI2 := Lib.hid (HI.out.quiet hb2)
    refine hK.out _ _ (by exact HI2.out.box.cell) (fun hHeld => ?_)
    clear hK K
    refine wpAnyH_ready (rs := [2]) (by kernel_rfl) (by simp) ?_
    refine AllReadyH.cons rfl (fun K hK => ?_) AllReadyH.nil
    go_simp
    refine hK.out _ _ (by first | assumption | go_keep) (fun hHeld => ?_)
    clear hK K
    refine wpAnyH_take (i := 3) (v := .agg #[.int .i64 (M : Int), .slice A ps.length c]) rfl (by kernel_rfl) (by kernel_rfl) (by kernel_rfl) (fun _ _ _ h => h) (Or.inl ⟨by rfl, ?_⟩) (by assumption) ?_
    · (intro w hSw; (try dsimp only at hSw); go_simp)
    simp only [Act.put]
    refine wpAnyH_take (i := 6) (v := .pointer (some ⟨w1.heap.size, 0, none⟩)) rfl (by kernel_rfl) (by kernel_rfl) (by kernel_rfl) (fun _ _ _ h => h) (Or.inl ⟨by rfl, ?_⟩) (by assumption) ?_
    · (intro w hSw; (try dsimp only at hSw); go_simp)
    simp only [Act.put]
    refine wpAnyH_take (i := 7) (v := .int .i64 (M : Int)) rfl (by kernel_rfl) (by kernel_rfl) (by kernel_rfl) (fun _ _ _ h => h) (Or.inl ⟨by rfl, ?_⟩) (by assumption) ?_
    · (intro w hSw; (try dsimp only at hSw); go_simp)
    simp only [Act.put]
    refine wpAnyH_ready (rs := [4]) (by kernel_rfl) (by simp) ?_
    refine AllReadyH.cons rfl (fun K hK => ?_) AllReadyH.nil
    go_simp
    go_at_call 111
    refine (show Calls Try.prog 111 #[nv (M : Int) A ps.length c, .int .i64 1] w2 _ from sreach_any M 1 A c ps w2 HI2.out.net.pat hG (by omega) (by omega)).mono ?_
    rintro e w3 ⟨gr, o, capr, rfl, hgg, ho, hb3⟩
    have HI3 := Lib.hid (HI2.out.quiet hb3)
    rw [hC]
    refine hK.out _ _ (by exact HI3.out.box.cell) (fun hHeld => ?_)
    clear hK K
    refine wpAnyH_ready (rs := [5]) (by kernel_rfl) (by simp) ?_
    refine AllReadyH.cons rfl (fun K hK => ?_) AllReadyH.nil
    go_simp
    refine hK.out _ _ (by first | assumption | go_keep) (fun hHeld => ?_)
    clear hK K
    refine wpAnyH_ready (rs := [8]) (by kernel_rfl) (by simp) ?_
    refine AllReadyH.cons rfl (fun K hK => ?_) AllReadyH.nil
    go_simp
    refine hK.out _ _ (by first | assumption | go_keep) (fun hHeld => ?_)
    clear hK K
    refine wpAnyH_ready (rs := [9]) (by kernel_rfl) (by simp) ?_
    refine AllReadyH.cons rfl (fun K hK => ?_) AllReadyH.nil
    go_simp
    refine hK.out _ _ (by first | assumption | go_keep) (fun hHeld => ?_)
    clear hK K
    refine wpAnyH_ready (rs := [10]) (by kernel_rfl) (by simp) ?_
    refine AllReadyH.cons rfl (fun K hK => ?_) AllReadyH.nil
    go_simp
    refine hK.out _ _ (by first | assumption | go_keep) (fun hHeld => ?_)
    clear hK K
    refine wpAnyH_take (i := 11) (v := undef) rfl (by kernel_rfl) (by kernel_rfl) (by kernel_rfl) (fun _ _ _ h => h) (Or.inr ⟨by rfl, rfl⟩) (by assumption) ?_
    simp only [Act.put]
    refine wpAnyH_take (i := 12) (v := undef) rfl (by kernel_rfl) (by kernel_rfl) (by kernel_rfl) (fun _ _ _ h => h) (Or.inr ⟨by rfl, rfl⟩) (by assumption) ?_
    simp only [Act.put]
    refine wpAnyH_take (i := 13) (v := undef) rfl (by kernel_rfl) (by kernel_rfl) (by kernel_rfl) (fun _ _ _ h => h) (Or.inr ⟨by rfl, rfl⟩) (by assumption) ?_
    simp only [Act.put]
    refine wpAnyH_ready (rs := [14]) (by kernel_rfl) (by simp) ?_
    refine AllReadyH.cons rfl (fun K hK => ?_) AllReadyH.nil
    go_simp
    refine hK.out _ _ (by first | assumption | go_keep) (fun hHeld => ?_)
    clear hK K
    refine wpAnyH_done (by kernel_rfl) ?_ _
    clear hHeld
    obtain ⟨q0, q1⟩ := HI3.out.box.cell
    obtain ⟨s0, s1⟩ := HI3.out.res.cell
    have hsl := HI3.out.res.lt
    have hTl := HI3.out.box.lt
    have hsf := HI3.out.res.frozen
    have f0 := hsf 0
    have f1 := hsf 1
    go_wp2
    refine bodyPost_ret (v := nv (M : Int) A ps.length c) (by simp [results, Try.results75, go_sem, s0, s1]) rfl (HI3.out.done (by omega))
  · have hgf : goodB N ps = false := by simpa using hgd
    have HC := Lib.hid (good_v hgf A c _ HI.out.net.pat hpl)
    clear hgd hgf
    refine wp_region_held_drew (S := fun w' => w'.cell? ⟨w1.heap.size, 0, none⟩ = some (.int .i64 N) ∧ w'.cell? ⟨w1.heap.size, 1, none⟩ = some (.slice A ps.length c)) (by kernel_rfl) (by go_keep) (fun hHeld => ?_)
    refine wpAnyH_take (i := 0) (v := .agg #[.int .i64 N, .slice A ps.length c]) rfl (by kernel_rfl) (by kernel_rfl) (by kernel_rfl) (fun _ _ _ h => h) (Or.inl ⟨by rfl, ?_⟩) (by assumption) ?_
    · (intro w hSw; (try dsimp only at hSw); go_simp)
    simp only [Act.put, List.setIfInBounds_toArray]
    refine wpAnyH_ready (rs := [1]) (by kernel_rfl) (by simp) ?_
    refine AllReadyH.cons rfl (fun K hK => ?_) AllReadyH.nil
    go_simp
    go_at_call 114
    refine HC.out.mono ?_
    rintro e w2 ⟨rfl, hb2⟩
    have HI2 := Lib.hid (HI.out.quiet hb2)
    refine hK.out _ _ (by exact HI2.out.box.cell) (fun hHeld => ?_)
    clear hK K
    refine wpAnyH_ready (rs := [2]) (by kernel_rfl) (by simp) ?_
    refine AllReadyH.cons rfl (fun K hK => ?_) AllReadyH.nil
    go_simp
    refine hK.out _ _ (by first | assumption | go_keep) (fun hHeld => ?_)
    clear hK K
    refine wpAnyH_take (i := 3) (v := undef) rfl (by kernel_rfl) (by kernel_rfl) (by kernel_rfl) (fun _ _ _ h => h) (Or.inr ⟨by rfl, rfl⟩) (by assumption) ?_
    simp only [Act.put]
    refine wpAnyH_take (i := 4) (v := undef) rfl (by kernel_rfl) (by kernel_rfl) (by kernel_rfl) (fun _ _ _ h => h) (Or.inr ⟨by rfl, rfl⟩) (by assumption) ?_
    simp only [Act.put]
    refine wpAnyH_take (i := 5) (v := undef) rfl (by kernel_rfl) (by kernel_rfl) (by kernel_rfl) (fun _ _ _ h => h) (Or.inr ⟨by rfl, rfl⟩) (by assumption) ?_
    simp only [Act.put]
    refine wpAnyH_take (i := 6) (v := undef) rfl (by kernel_rfl) (by kernel_rfl) (by kernel_rfl) (fun _ _ _ h => h) (Or.inr ⟨by rfl, rfl⟩) (by assumption) ?_
    simp only [Act.put]
    refine wpAnyH_take (i := 7) (v := undef) rfl (by kernel_rfl) (by kernel_rfl) (by kernel_rfl) (fun _ _ _ h => h) (Or.inr ⟨by rfl, rfl⟩) (by assumption) ?_
    simp only [Act.put]
    refine wpAnyH_take (i := 8) (v := undef) rfl (by kernel_rfl) (by kernel_rfl) (by kernel_rfl) (fun _ _ _ h => h) (Or.inr ⟨by rfl, rfl⟩) (by assumption) ?_
    simp only [Act.put]
    refine wpAnyH_ready (rs := [9]) (by kernel_rfl) (by simp) ?_
    refine AllReadyH.cons rfl (fun K hK => ?_) AllReadyH.nil
    go_simp
    refine hK.out _ _ (by first | assumption | go_keep) (fun hHeld => ?_)
    clear hK K
    refine wpAnyH_ready (rs := [10]) (by kernel_rfl) (by simp) ?_
    refine AllReadyH.cons rfl (fun K hK => ?_) AllReadyH.nil
    go_simp
    refine hK.out _ _ (by first | assumption | go_keep) (fun hHeld => ?_)
    clear hK K
    refine wpAnyH_take (i := 11) (v := undef) rfl (by kernel_rfl) (by kernel_rfl) (by kernel_rfl) (fun _ _ _ h => h) (Or.inr ⟨by rfl, rfl⟩) (by assumption) ?_
    simp only [Act.put]
    refine wpAnyH_take (i := 12) (v := undef) rfl (by kernel_rfl) (by kernel_rfl) (by kernel_rfl) (fun _ _ _ h => h) (Or.inr ⟨by rfl, rfl⟩) (by assumption) ?_
    simp only [Act.put]
    refine wpAnyH_take (i := 13) (v := undef) rfl (by kernel_rfl) (by kernel_rfl) (by kernel_rfl) (fun _ _ _ h => h) (Or.inr ⟨by rfl, rfl⟩) (by assumption) ?_
    simp only [Act.put]
    refine wpAnyH_ready (rs := [14]) (by kernel_rfl) (by simp) ?_
    refine AllReadyH.cons rfl (fun K hK => ?_) AllReadyH.nil
    go_simp
    refine hK.out _ _ (by first | assumption | go_keep) (fun hHeld => ?_)
    clear hK K
    refine wpAnyH_done (by kernel_rfl) ?_ _
    clear hHeld
    obtain ⟨q0, q1⟩ := HI2.out.box.cell
    obtain ⟨s0, s1⟩ := HI2.out.res.cell
    have hsl := HI2.out.res.lt
    have hTl := HI2.out.box.lt
    have hsf := HI2.out.res.frozen
    have f0 := hsf 0
    have f1 := hsf 1
    go_wp2
    refine bodyPost_ret (v := nv N A ps.length c) (by simp [results, Try.results75, go_sem, s0, s1]) rfl (HI2.out.done (by omega))
end Go.Proofs.Ytikppgbipdflbab.S2

namespace Go.Proofs.Ytikppgbipdflbab.S2
open Go.RowKit Go.Sort P2

set_option maxHeartbeats 4000000 in
set_option maxRecDepth 100000 in
theorem heights_draw (B g : Nat) (a : Option Addr) (n cap K : Nat) (N : Int) (A : Option Addr) (len c : Nat) (w : World) (hK : K ≤ 800000) (hN9 : N ≤ 9) (h : S1.St B g a n cap K w) (hgw : g < w.heap.size) :
    Calls Try.prog 103 #[.pointer (some ⟨g, 0, none⟩), nv N A len c] w (LPost B g a n cap (K + 100) 10 w) := by
  have hBg := h.bg
  obtain ⟨i0, hi, hz0, hz1, hz2⟩ := info_parts infoI
  have HL0 := Lib.hid (show LI w ((w.alloc (nb N A len c)).alloc (.cells #[] 3)) B g a n cap K N (.slice A len c) (.slice (some ⟨w.heap.size + 1, 0, none⟩) 0 0) [] from by
    have h1 := own_empty (w.alloc (nb N A len c)) (w.heap.size + 1) (by simp)
    rw [size_alloc] at h1
    exact ⟨S1.st_new (S1.st_new h _) _, S1.grown_new (World.grownBy_alloc w _ (some g)) _, h1, (TN.made w _ _).below (alloc_below _ _), hgw⟩)
  clear h
  go_enter Try.func103, Try.ntmps103
  refine Hid.out ?_
  refine Lib.hid ?_
  go_wp2_with fail
  go_loopw [5, 6] (fun v nd wr => ∃ (k q cc : Nat) (l : List Int), nd = .int .i64 (1 + (k : Int)) ∧ k ≤ 9 ∧ l.length = k ∧ v = .slice (some ⟨q, 0, none⟩) k cc ∧ Hid (LI w wr B g a n cap (K + 2 * k) N (.slice A len c) (.slice (some ⟨q, 0, none⟩) l.length cc) l)) (fun _ nd _ => (12 - intOf nd).toNat)
  case atStart => exact ⟨0, w.heap.size + 1, 0, [], rfl, by omega, rfl, rfl, HL0⟩
  case round =>
    clear HL0
    obtain ⟨k, q, cc, l, rfl, hk9, hlk, rfl, HL⟩ := hrel
    obtain ⟨wo, hwo⟩ : ∃ wo, wo = wr := ⟨_, rfl⟩
    subst hwo
    obtain ⟨c0, c1⟩ := HL.out.box.cell
    have hbz := HL.out.box.lt
    have HLK := Lib.hid hlk
    clear hlk
    by_cases hlt : 1 + (k : Int) ≤ N
    · have hle : decide (1 + (k : Int) ≤ N) = true := decide_eq_true hlt
      have hk8 : k ≤ 8 := by omega
      have wk : IntKind.i64.wrap (1 + (k : Int) + 1) = 1 + (k : Int) + 1 := IntWalk.i64_in _ (by omega)
      have HQ := Lib.hid (World.ownsRow.lt HL.out.own q rfl)
      clear hlt
      refine Hid.out ?_
      refine Lib.hid ?_
      go_wp2_with (first
        | (go_at_call 150; refine (S1.among_any B g a n cap (K + 2 * k) wo.heap.size 5 5 [0, 5, 50, 1000, 20000] _ rfl (by omega) (by simp) (by simp) (HL.out.alloc (.cells #[.int .i64 0, .int .i64 5, .int .i64 50, .int .i64 1000, .int .i64 20000] 3)).st (fun j hj => S1.ti_new wo [0, 5, 50, 1000, 20000] 3 j hj) (by omega)).mono ?_; rintro e w5 ⟨⟨z, rfl⟩, hs, hg⟩; refine Hid.out ?_)
        | fail)
      have HL5 := Lib.hid ((HL.out.alloc (.cells #[.int .i64 0, .int .i64 5, .int .i64 50, .int .i64 1000, .int .i64 20000] 3)).call hs hg)
      have ho := HL5.out.own
      rw [HLK.out] at ho
      have hgz := HL5.out.gr.size
      clear hs hg c0 c1
      obtain ⟨d0, d1⟩ := HL5.out.box.cell
      have hdz := HL5.out.box.lt
      refine Lib.hid ?_
      go_wp2_with (first
        | (at_builtin; go_must (refine wpList_append_own _ rfl _ _ 27 rfl (w.heap.size + 1) 3 i0 (.int .i64 0) 1 8 Try.underlying27 hi hz0 hz1 hz2 rfl (by decide) _ _ _ rfl (ho.alloc _) ⟨w5.heap.size, 0, none⟩ 1 1 [iv z] rfl rfl (cell_one_new _ _ _) (by intro u hu; simp at hu; subst hu; rfl) (by have := HLK.out; unfold maxLen; omega) (by have := HLK.out; omega) (by have := HLK.out; simp; omega) ?_); intro v' w7 hown' hgrow hnil)
        | fail)
      have hg7 : (w5.alloc (.cells #[iv z] 3)).grownBy w7 (some q) := hgrow
      obtain ⟨q2, cc2, hv2, -⟩ := World.ownsRow.form hown' (by omega)
      subst hv2
      have HL7 := Lib.hid ((HL5.out.alloc (.cells #[iv z] 3)).push hg7 hown')
      clear hown' hgrow hnil ho HL5 hg7
      refine ⟨⟨k + 1, q2, cc2, l ++ [z], by go_num, by omega, by simp [HLK.out], by rw [HLK.out], Lib.hid ?_⟩, by simp [intOf]; omega⟩
      have hx := HL7.out
      have hlen : (l ++ [z]).length = l.length + 1 := by simp
      rw [hlen]
      exact hx.more (by omega)
    · have hle : decide (1 + (k : Int) ≤ N) = false := decide_eq_false hlt
      clear hlt
      refine Hid.out ?_
      refine Lib.hid ?_
      go_wp2_with fail
      case isTrue hk0 K0 aK0 =>
        go_wp2_with (first | (go_at_call 156; refine (S1.one_any B g a n cap (K + 2 * k) 20 _ (by omega) (by omega) (by omega) HL.out.st).mono ?_; rintro e w5 ⟨b5, rfl, hs, hg⟩; refine Hid.out ?_) | fail)
        have HL5 := Lib.hid (HL.out.call hs hg)
        clear hs hg
        cases b5 with
        | false =>
          refine Lib.hid ?_
          go_wp2_with fail
          have hy := HL5.out.post HLK.out (m := 10) (K' := K + 100) (by omega) (by omega)
          go_ret
          exact hy
        | true =>
          refine Lib.hid ?_
          go_wp2_with (first
            | (go_at_call 150; refine (S1.among_any B g a n cap (K + 2 * k + 2) w5.heap.size 3 3 [-1, 100000000000, 100000000001] _ rfl (by omega) (by simp) (by simp) (HL5.out.alloc (.cells #[.int .i64 (-1), .int .i64 100000000000, .int .i64 100000000001] 3)).st (fun j hj => S1.ti_new w5 [-1, 100000000000, 100000000001] 3 j hj) (by have := HL5.out.gr.size; omega)).mono ?_; rintro e w7 ⟨⟨z, rfl⟩, hs, hg⟩; refine Hid.out ?_)
            | fail)
          have HL7 := Lib.hid ((HL5.out.alloc (.cells #[.int .i64 (-1), .int .i64 100000000000, .int .i64 100000000001] 3)).call hs hg)
          clear hs hg
          have hrn : 0 < l.length := by have := HLK.out; omega
          have ho := HL7.out.own
          unfold IOwn at ho
          have hfz := ho.frozenAt 0
          have hcz : w7.cell? ⟨q, 0, none⟩ = some (iv (l.getD 0 0)) := by rw [ho.cellAt 0 (by omega)]; simp [List.getD, hrn]
          clear ho
          have HLW := Lib.hid (HL7.out.set 0 z)
          have HLn := Lib.hid (show (l.set 0 z).length = k by rw [List.length_set]; exact HLK.out)
          refine Lib.hid ?_
          go_wp2_with fail
          have hy := HLW.out.post HLn.out (m := 10) (K' := K + 100) (by omega) (by omega)
          go_ret
          exact hy
      · skip
        refine Hid.out ?_
        refine Lib.hid ?_
        go_wp2_with fail
        have hy := HL.out.post HLK.out (m := 10) (K' := K + 100) (by omega) (by omega)
        go_ret
        exact hy
end Go.Proofs.Ytikppgbipdflbab.S2

namespace Go.Proofs.Ytikppgbipdflbab.S2
open Go.RowKit Go.Sort P2

theorem head_draw (B g : Nat) (a : Option Addr) (n cap K : Nat) (w : World) (hK : K ≤ 800000) (h : S1.St B g a n cap K w) :
    Calls Try.prog 95 #[.pointer (some ⟨g, 0, none⟩)] w fun e w' => (∃ z : Int, e = .returned (.int .i64 z)) ∧ S1.St B g a n cap (K + 2) w' ∧ w.grownBy w' (some g) := by
  have HS := Lib.hid (S1.st_new h (.cells #[.int .i64 0, .int .i64 100, .int .i64 5000, .int .i64 100000, .int .i64 2000000, .int .i64 100000000000, .int .i64 100000000001, .int .i64 (-1), .int .i64 30000, .int .i64 1000] 3))
  have HG := Lib.hid (show w.grownBy (w.alloc (.cells #[.int .i64 0, .int .i64 100, .int .i64 5000, .int .i64 100000, .int .i64 2000000, .int .i64 100000000000, .int .i64 100000000001, .int .i64 (-1), .int .i64 30000, .int .i64 1000] 3)) (some g) from World.grownBy_alloc w _ (some g))
  have hlt := st_lt h
  clear h
  go_enter Try.func95, Try.ntmps95
  refine Hid.out ?_
  refine Lib.hid ?_
  go_wp2_with (first | (go_at_call 150; refine (S1.among_any B g a n cap K w.heap.size 10 10 [0, 100, 5000, 100000, 2000000, 100000000000, 100000000001, (-1), 30000, 1000] _ rfl (by omega) (by simp) (by simp) HS.out (fun j hj => S1.ti_new w [0, 100, 5000, 100000, 2000000, 100000000000, 100000000001, (-1), 30000, 1000] 3 j hj) (by omega)).mono ?_; rintro e w5 ⟨⟨z, rfl⟩, hs, hg⟩; refine Hid.out ?_) | fail)
  refine Lib.hid ?_
  go_wp2_with fail
  go_ret
  exact ⟨⟨z, rfl⟩, hs, S1.grown_trans HG.out hg⟩
/-- A draw under way behind its network: the cursor, the network, its box, the result's box. -/
structure DI (w wr : World) (a : Option Addr) (n cap K T : Nat) (N : Int) (A : Option Addr) (c : Nat) (ps : List Pp) : Prop where
  st : S1.St (w.heap.size + 1) (w.heap.size + 1) a n cap K wr
  bel : Below w.heap.size w wr
  net : TNet (w.heap.size + 2) wr N A c ps
  box : TN wr T (.int .i64 N) (.slice A ps.length c)
  res : TN wr w.heap.size (.int .i64 0) (.slice none 0 0)
  tw : w.heap.size + 1 < T
theorem DI.quiet {w wr w2 : World} {a : Option Addr} {n cap K T : Nat} {N : Int} {A : Option Addr} {c : Nat} {ps : List Pp} (h : DI w wr a n cap K T N A c ps) (hb : Below wr.heap.size wr w2) : DI w w2 a n cap K T N A c ps :=
  ⟨h.st.other hb, h.bel.trans (hb.mono h.bel.size), h.net.on hb, h.box.below hb, h.res.below hb, h.tw⟩
theorem DI.call {w wr w2 : World} {a : Option Addr} {n cap K K' T : Nat} {N : Int} {A : Option Addr} {c : Nat} {ps : List Pp} (h : DI w wr a n cap K T N A c ps) (hs : S1.St (w.heap.size + 1) (w.heap.size + 1) a n cap K' w2) (hg : wr.grownBy w2 (some (w.heap.size + 1))) : DI w w2 a n cap K' T N A c ps :=
  ⟨hs, h.bel.trans (S1.grown_below hg (by omega) h.bel.size), h.net.call hg (by omega), h.box.grown hg (by have := h.tw; omega), h.res.grown hg (by omega), h.tw⟩
theorem DI.done {w wr : World} {a : Option Addr} {n cap K T : Nat} {N : Int} {A : Option Addr} {c : Nat} {ps : List Pp} (h : DI w wr a n cap K T N A c ps) (x y : Value) : TNet (w.heap.size + 1) ((wr.setCell ⟨w.heap.size, 0, none⟩ x).setCell ⟨w.heap.size, 1, none⟩ y) N A c ps ∧ Below w.heap.size w ((wr.setCell ⟨w.heap.size, 0, none⟩ x).setCell ⟨w.heap.size, 1, none⟩ y) :=
  ⟨((h.net.low (by omega)).set _ _ _ (by omega)).set _ _ _ (by omega), (h.bel.setCell (p := ⟨w.heap.size, 0, none⟩) (Nat.le_refl _) x).setCell (p := ⟨w.heap.size, 1, none⟩) (Nat.le_refl _) y⟩
theorem own_call {w w2 : World} {B g : Nat} {v : Value} {l : List Int} (h : IOwn w B v l) (hg : w.grownBy w2 (some g)) (hB : g < B) : IOwn w2 B v l :=
  World.ownsRow.kept h hg (.inr (fun e => by have := (World.ownsRow.lt h g e).1; omega))
theorem own_cell {w : World} {B b i : Nat} {v x : Value} {l : List Int} (h : IOwn w B v l) (hB : b < B) : IOwn (w.setCell ⟨b, i, none⟩ x) B v l :=
  own_call (g := b) h ⟨rfl, rfl, rfl, by simp [World.setCell], fun k _ hk => Below.heap_setCell _ _ _ _ (fun e => hk (by simp [e]))⟩ hB
theorem own_low {w : World} {B B' : Nat} {v : Value} {l : List Int} (h : IOwn w B v l) (hB : B' ≤ B) : IOwn w B' v l := own_lower h hB
theorem own_two {w : World} {b : Nat} {v x y : Value} {l : List Int} (h : IOwn w (b + 1) v l) : IOwn ((w.setCell ⟨b, 0, none⟩ x).setCell ⟨b, 1, none⟩ y) (b + 1) v l := own_cell (own_cell h (by omega)) (by omega)
set_option maxHeartbeats 4000000 in
set_option maxRecDepth 100000 in
theorem dtree_any (a : Option Addr) (n cap : Nat) (w : World) (h : S1.Cd w.heap.size a n w) (hn : n ≤ 65536) :
    Calls Try.prog 10 #[.slice a n cap] w fun e w' => ∃ (N : Int) (A : Option Addr) (c : Nat) (ps : List Pp) (z0 : Int) (q1 c1 : Nat) (l1 : List Int), e = .returned (.tuple #[nv N A ps.length c, .int .i64 z0, .slice (some ⟨q1, 0, none⟩) l1.length c1]) ∧ TNet (w.heap.size + 1) w' N A c ps ∧ l1.length ≤ 10 ∧ IOwn w' (w.heap.size + 1) (.slice (some ⟨q1, 0, none⟩) l1.length c1) l1 ∧ Below w.heap.size w w' := by
  have HST := Lib.hid (cur_start cap (nb 0 none 0 0) h hn)
  clear h
  go_enter Try.func10, Try.ntmps10
  refine Hid.out ?_
  refine Lib.hid ?_
  go_wp2_with (first | (go_at_call 75; refine (tree_draw (w.heap.size + 1) (w.heap.size + 1) a n cap 0 _ (by omega) HST.out (by simp)).mono ?_; rintro e w1 ⟨N, A, c, ps, rfl, hd, hs, hg⟩; refine Hid.out ?_) | fail)
  have hz1 : w.heap.size + 2 ≤ w1.heap.size := by have := hg.size; simp at this; omega
  have HI0 := Lib.hid (show DI w (w1.alloc (nb N A ps.length c)) a n cap 1000 w1.heap.size N A c ps from
    ⟨S1.st_new (hs.more (by omega)) _, (below2 hg (by omega)).trans ((alloc_below w1 _).mono (by omega)), (hd.low (by simp)).on (alloc_below _ _), TN.made w1 _ _, (((TN.made w (.int .i64 0) (.slice none 0 0)).below (alloc_below _ _)).grown hg (by omega)).below (alloc_below _ _), by omega⟩)
  clear hd hs hg HST
  refine Lib.hid ?_
  go_upto_region 3 with (fail)
  obtain ⟨wa, hwa⟩ : ∃ wa, w1.alloc (nb N A ps.length c) = wa := ⟨_, rfl⟩
  rw [hwa] at HI0 ⊢
  clear hwa
  have hN9 := HI0.out.net.n9
  have hT9 : w.heap.size + 1 < w1.heap.size := HI0.out.tw
  obtain ⟨c0, c1⟩ := HI0.out.box.cell
  have hy0 := HI0.out.box.lt
  refine wp_region_held_drew (S := fun w' => w'.cell? ⟨w1.heap.size, 0, none⟩ = some (.int .i64 N) ∧ w'.cell? ⟨w1.heap.size, 1, none⟩ = some (.slice A ps.length c)) (by kernel_rfl) (by exact ⟨c0, c1⟩) (fun hHeld => ?_)
  refine wpAnyH_take (i := 0) (v := .agg #[.int .i64 N, .slice A ps.length c]) rfl (by kernel_rfl) (by kernel_rfl) (by kernel_rfl) (fun _ _ _ h => h) (Or.inl ⟨by kernel_rfl, ?_⟩) (by assumption) ?_
  · (intro w hSw; (try dsimp only at hSw); go_simp)
  simp only [Act.put, List.setIfInBounds_toArray]
  refine wpAnyH_take (i := 1) (v := .pointer (some ⟨w.heap.size + 1, 0, none⟩)) rfl (by kernel_rfl) (by kernel_rfl) (by kernel_rfl) (fun _ _ _ h => h) (Or.inl ⟨by kernel_rfl, ?_⟩) (by assumption) ?_
  · (intro w hSw; (try dsimp only at hSw); go_simp)
  simp only [Act.put]
  refine wpAnyH_take (i := 2) (v := .agg #[.int .i64 N, .slice A ps.length c]) rfl (by kernel_rfl) (by kernel_rfl) (by kernel_rfl) (fun _ _ _ h => h) (Or.inl ⟨by kernel_rfl, ?_⟩) (by assumption) ?_
  · (intro w hSw; (try dsimp only at hSw); go_simp)
  simp only [Act.put]
  refine wpAnyH_take (i := 4) (v := .pointer (some ⟨w.heap.size + 1, 0, none⟩)) rfl (by kernel_rfl) (by kernel_rfl) (by kernel_rfl) (fun _ _ _ h => h) (Or.inl ⟨by kernel_rfl, ?_⟩) (by assumption) ?_
  · (intro w hSw; (try dsimp only at hSw); go_simp)
  simp only [Act.put]
  refine wpAnyH_take (i := 5) (v := .agg #[.int .i64 N, .slice A ps.length c]) rfl (by kernel_rfl) (by kernel_rfl) (by kernel_rfl) (fun _ _ _ h => h) (Or.inl ⟨by kernel_rfl, ?_⟩) (by assumption) ?_
  · (intro w hSw; (try dsimp only at hSw); go_simp)
  simp only [Act.put]
  have HI0x := Lib.hid (HI0.out.quiet (Below.refl _ _).drew)
  clear HI0 c0 c1
  refine wpAnyH_ready (rs := [3]) (by kernel_rfl) (by simp) ?_
  refine AllReadyH.cons rfl (fun K hK => ?_) AllReadyH.nil
  go_simp
  go_at_call 76
  refine (node_draw (w.heap.size + 1) (w.heap.size + 1) a n cap 1000 N A ps.length c _ (by omega) (by omega) HI0x.out.st).mono ?_
  rintro e v0 ⟨⟨z0, rfl⟩, hs, hg⟩
  have HI1 := Lib.hid (HI0x.out.call hs hg)
  clear hs hg
  obtain ⟨x0, y0⟩ := HI1.out.box.cell
  refine hK.out _ _ (by exact ⟨x0, y0⟩) (fun hHeld => ?_)
  clear hK K
  refine wpAnyH_ready (rs := [6]) (by kernel_rfl) (by simp) ?_
  refine AllReadyH.cons rfl (fun K hK => ?_) AllReadyH.nil
  go_simp
  go_at_call 77
  refine (demands_draw (w.heap.size + 1) (w.heap.size + 1) a n cap 1004 N A ps.length c _ (by omega) hN9 HI1.out.st (by have := HI1.out.box.lt; omega)).mono ?_
  rintro e v1 ⟨q1, c1, l1, rfl, hl1, ho, hs, hg⟩
  have HO1_1 := Lib.hid (own_low (B' := w.heap.size + 2) ho (by have := HI1.out.box.lt; omega))
  clear ho
  have HI2 := Lib.hid (HI1.out.call hs hg)
  clear hs hg
  obtain ⟨x1, y1⟩ := HI2.out.box.cell
  obtain ⟨s0, s1⟩ := HI2.out.res.cell
  have sf := HI2.out.res.frozen
  have sz := HI2.out.res.lt
  refine hK.out _ _ (by exact ⟨x1, y1⟩) (fun hHeld => ?_)
  clear hK K
  have hD := Lib.hid (HI2.out.done (.int .i64 N) (.slice A ps.length c))
  refine wpAnyH_ready (rs := [7]) (by kernel_rfl) (by simp) ?_
  refine AllReadyH.cons rfl (fun K hK => ?_) AllReadyH.nil
  go_simp
  refine hK.out _ _ (by first | assumption | go_keep | exact (((HI2.out.box.other (p := ⟨w.heap.size, 0, none⟩) (.int .i64 N) (by show w1.heap.size ≠ w.heap.size; omega)).other (p := ⟨w.heap.size, 1, none⟩) (.slice A ps.length c) (by show w1.heap.size ≠ w.heap.size; omega)).cell)) (fun hHeld => ?_)
  clear hK K
  refine wpAnyH_ready (rs := [8]) (by kernel_rfl) (by simp) ?_
  refine AllReadyH.cons rfl (fun K hK => ?_) AllReadyH.nil
  go_simp
  refine hK.out _ _ (by first | assumption | go_keep | exact (((HI2.out.box.other (p := ⟨w.heap.size, 0, none⟩) (.int .i64 N) (by show w1.heap.size ≠ w.heap.size; omega)).other (p := ⟨w.heap.size, 1, none⟩) (.slice A ps.length c) (by show w1.heap.size ≠ w.heap.size; omega)).cell)) (fun hHeld => ?_)
  clear hK K
  refine wpAnyH_ready (rs := [9]) (by kernel_rfl) (by simp) ?_
  refine AllReadyH.cons rfl (fun K hK => ?_) AllReadyH.nil
  go_simp
  refine hK.out _ _ (by first | assumption | go_keep | exact (((HI2.out.box.other (p := ⟨w.heap.size, 0, none⟩) (.int .i64 N) (by show w1.heap.size ≠ w.heap.size; omega)).other (p := ⟨w.heap.size, 1, none⟩) (.slice A ps.length c) (by show w1.heap.size ≠ w.heap.size; omega)).cell)) (fun hHeld => ?_)
  clear hK K
  refine wpAnyH_done (by kernel_rfl) ?_ _
  clear hHeld
  go_wp2_with fail
  refine bodyPost_ret (v := .tuple #[nv N A ps.length c, .int .i64 z0, .slice (some ⟨q1, 0, none⟩) l1.length c1]) (by simp [results, Try.results10, go_sem, s0, s1]) rfl ⟨N, A, c, ps, z0, q1, c1, l1, rfl, hD.out.1, hl1, own_two (own_low HO1_1.out (by omega)), hD.out.2⟩
set_option maxHeartbeats 4000000 in
set_option maxRecDepth 100000 in
theorem dheads_any (a : Option Addr) (n cap : Nat) (w : World) (h : S1.Cd w.heap.size a n w) (hn : n ≤ 65536) :
    Calls Try.prog 22 #[.slice a n cap] w fun e w' => ∃ (N : Int) (A : Option Addr) (c : Nat) (ps : List Pp) (z0 : Int) (q1 c1 : Nat) (l1 : List Int) (z2 : Int), e = .returned (.tuple #[nv N A ps.length c, .int .i64 z0, .slice (some ⟨q1, 0, none⟩) l1.length c1, .int .i64 z2]) ∧ TNet (w.heap.size + 1) w' N A c ps ∧ l1.length ≤ 10 ∧ IOwn w' (w.heap.size + 1) (.slice (some ⟨q1, 0, none⟩) l1.length c1) l1 ∧ Below w.heap.size w w' := by
  have HST := Lib.hid (cur_start cap (nb 0 none 0 0) h hn)
  clear h
  go_enter Try.func22, Try.ntmps22
  refine Hid.out ?_
  refine Lib.hid ?_
  go_wp2_with (first | (go_at_call 75; refine (tree_draw (w.heap.size + 1) (w.heap.size + 1) a n cap 0 _ (by omega) HST.out (by simp)).mono ?_; rintro e w1 ⟨N, A, c, ps, rfl, hd, hs, hg⟩; refine Hid.out ?_) | fail)
  have hz1 : w.heap.size + 2 ≤ w1.heap.size := by have := hg.size; simp at this; omega
  have HI0 := Lib.hid (show DI w (w1.alloc (nb N A ps.length c)) a n cap 1000 w1.heap.size N A c ps from
    ⟨S1.st_new (hs.more (by omega)) _, (below2 hg (by omega)).trans ((alloc_below w1 _).mono (by omega)), (hd.low (by simp)).on (alloc_below _ _), TN.made w1 _ _, (((TN.made w (.int .i64 0) (.slice none 0 0)).below (alloc_below _ _)).grown hg (by omega)).below (alloc_below _ _), by omega⟩)
  clear hd hs hg HST
  refine Lib.hid ?_
  go_upto_region 3 with (fail)
  obtain ⟨wa, hwa⟩ : ∃ wa, w1.alloc (nb N A ps.length c) = wa := ⟨_, rfl⟩
  rw [hwa] at HI0 ⊢
  clear hwa
  have hN9 := HI0.out.net.n9
  have hT9 : w.heap.size + 1 < w1.heap.size := HI0.out.tw
  obtain ⟨c0, c1⟩ := HI0.out.box.cell
  have hy0 := HI0.out.box.lt
  refine wp_region_held_drew (S := fun w' => w'.cell? ⟨w1.heap.size, 0, none⟩ = some (.int .i64 N) ∧ w'.cell? ⟨w1.heap.size, 1, none⟩ = some (.slice A ps.length c)) (by kernel_rfl) (by exact ⟨c0, c1⟩) (fun hHeld => ?_)
  refine wpAnyH_take (i := 0) (v := .agg #[.int .i64 N, .slice A ps.length c]) rfl (by kernel_rfl) (by kernel_rfl) (by kernel_rfl) (fun _ _ _ h => h) (Or.inl ⟨by kernel_rfl, ?_⟩) (by assumption) ?_
  · (intro w hSw; (try dsimp only at hSw); go_simp)
  simp only [Act.put, List.setIfInBounds_toArray]
  refine wpAnyH_take (i := 1) (v := .pointer (some ⟨w.heap.size + 1, 0, none⟩)) rfl (by kernel_rfl) (by kernel_rfl) (by kernel_rfl) (fun _ _ _ h => h) (Or.inl ⟨by kernel_rfl, ?_⟩) (by assumption) ?_
  · (intro w hSw; (try dsimp only at hSw); go_simp)
  simp only [Act.put]
  refine wpAnyH_take (i := 2) (v := .agg #[.int .i64 N, .slice A ps.length c]) rfl (by kernel_rfl) (by kernel_rfl) (by kernel_rfl) (fun _ _ _ h => h) (Or.inl ⟨by kernel_rfl, ?_⟩) (by assumption) ?_
  · (intro w hSw; (try dsimp only at hSw); go_simp)
  simp only [Act.put]
  refine wpAnyH_take (i := 4) (v := .pointer (some ⟨w.heap.size + 1, 0, none⟩)) rfl (by kernel_rfl) (by kernel_rfl) (by kernel_rfl) (fun _ _ _ h => h) (Or.inl ⟨by kernel_rfl, ?_⟩) (by assumption) ?_
  · (intro w hSw; (try dsimp only at hSw); go_simp)
  simp only [Act.put]
  refine wpAnyH_take (i := 5) (v := .agg #[.int .i64 N, .slice A ps.length c]) rfl (by kernel_rfl) (by kernel_rfl) (by kernel_rfl) (fun _ _ _ h => h) (Or.inl ⟨by kernel_rfl, ?_⟩) (by assumption) ?_
  · (intro w hSw; (try dsimp only at hSw); go_simp)
  simp only [Act.put]
  refine wpAnyH_take (i := 7) (v := .pointer (some ⟨w.heap.size + 1, 0, none⟩)) rfl (by kernel_rfl) (by kernel_rfl) (by kernel_rfl) (fun _ _ _ h => h) (Or.inl ⟨by kernel_rfl, ?_⟩) (by assumption) ?_
  · (intro w hSw; (try dsimp only at hSw); go_simp)
  simp only [Act.put]
  have HI0x := Lib.hid (HI0.out.quiet (Below.refl _ _).drew)
  clear HI0 c0 c1
  refine wpAnyH_ready (rs := [3]) (by kernel_rfl) (by simp) ?_
  refine AllReadyH.cons rfl (fun K hK => ?_) AllReadyH.nil
  go_simp
  go_at_call 76
  refine (node_draw (w.heap.size + 1) (w.heap.size + 1) a n cap 1000 N A ps.length c _ (by omega) (by omega) HI0x.out.st).mono ?_
  rintro e v0 ⟨⟨z0, rfl⟩, hs, hg⟩
  have HI1 := Lib.hid (HI0x.out.call hs hg)
  clear hs hg
  obtain ⟨x0, y0⟩ := HI1.out.box.cell
  refine hK.out _ _ (by exact ⟨x0, y0⟩) (fun hHeld => ?_)
  clear hK K
  refine wpAnyH_ready (rs := [6]) (by kernel_rfl) (by simp) ?_
  refine AllReadyH.cons rfl (fun K hK => ?_) AllReadyH.nil
  go_simp
  go_at_call 77
  refine (demands_draw (w.heap.size + 1) (w.heap.size + 1) a n cap 1004 N A ps.length c _ (by omega) hN9 HI1.out.st (by have := HI1.out.box.lt; omega)).mono ?_
  rintro e v1 ⟨q1, c1, l1, rfl, hl1, ho, hs, hg⟩
  have HO1_1 := Lib.hid (own_low (B' := w.heap.size + 2) ho (by have := HI1.out.box.lt; omega))
  clear ho
  have HI2 := Lib.hid (HI1.out.call hs hg)
  clear hs hg
  obtain ⟨x1, y1⟩ := HI2.out.box.cell
  refine hK.out _ _ (by exact ⟨x1, y1⟩) (fun hHeld => ?_)
  clear hK K
  refine wpAnyH_ready (rs := [8]) (by kernel_rfl) (by simp) ?_
  refine AllReadyH.cons rfl (fun K hK => ?_) AllReadyH.nil
  go_simp
  go_at_call 95
  refine (head_draw (w.heap.size + 1) (w.heap.size + 1) a n cap 1104 _ (by omega) HI2.out.st).mono ?_
  rintro e v2 ⟨⟨z2, rfl⟩, hs, hg⟩
  have HO1_2 := Lib.hid (own_call HO1_1.out hg (by omega))
  have HI3 := Lib.hid (HI2.out.call hs hg)
  clear hs hg
  obtain ⟨x2, y2⟩ := HI3.out.box.cell
  obtain ⟨s0, s1⟩ := HI3.out.res.cell
  have sf := HI3.out.res.frozen
  have sz := HI3.out.res.lt
  refine hK.out _ _ (by exact ⟨x2, y2⟩) (fun hHeld => ?_)
  clear hK K
  have hD := Lib.hid (HI3.out.done (.int .i64 N) (.slice A ps.length c))
  refine wpAnyH_ready (rs := [9]) (by kernel_rfl) (by simp) ?_
  refine AllReadyH.cons rfl (fun K hK => ?_) AllReadyH.nil
  go_simp
  refine hK.out _ _ (by first | assumption | go_keep | exact (((HI3.out.box.other (p := ⟨w.heap.size, 0, none⟩) (.int .i64 N) (by show w1.heap.size ≠ w.heap.size; omega)).other (p := ⟨w.heap.size, 1, none⟩) (.slice A ps.length c) (by show w1.heap.size ≠ w.heap.size; omega)).cell)) (fun hHeld => ?_)
  clear hK K
  refine wpAnyH_ready (rs := [10]) (by kernel_rfl) (by simp) ?_
  refine AllReadyH.cons rfl (fun K hK => ?_) AllReadyH.nil
  go_simp
  refine hK.out _ _ (by first | assumption | go_keep | exact (((HI3.out.box.other (p := ⟨w.heap.size, 0, none⟩) (.int .i64 N) (by show w1.heap.size ≠ w.heap.size; omega)).other (p := ⟨w.heap.size, 1, none⟩) (.slice A ps.length c) (by show w1.heap.size ≠ w.heap.size; omega)).cell)) (fun hHeld => ?_)
  clear hK K
  refine wpAnyH_ready (rs := [11]) (by kernel_rfl) (by simp) ?_
  refine AllReadyH.cons rfl (fun K hK => ?_) AllReadyH.nil
  go_simp
  refine hK.out _ _ (by first | assumption | go_keep | exact (((HI3.out.box.other (p := ⟨w.heap.size, 0, none⟩) (.int .i64 N) (by show w1.heap.size ≠ w.heap.size; omega)).other (p := ⟨w.heap.size, 1, none⟩) (.slice A ps.length c) (by show w1.heap.size ≠ w.heap.size; omega)).cell)) (fun hHeld => ?_)
  clear hK K
  refine wpAnyH_ready (rs := [12]) (by kernel_rfl) (by simp) ?_
  refine AllReadyH.cons rfl (fun K hK => ?_) AllReadyH.nil
  go_simp
  refine hK.out _ _ (by first | assumption | go_keep | exact (((HI3.out.box.other (p := ⟨w.heap.size, 0, none⟩) (.int .i64 N) (by show w1.heap.size ≠ w.heap.size; omega)).other (p := ⟨w.heap.size, 1, none⟩) (.slice A ps.length c) (by show w1.heap.size ≠ w.heap.size; omega)).cell)) (fun hHeld => ?_)
  clear hK K
  refine wpAnyH_done (by kernel_rfl) ?_ _
  clear hHeld
  go_wp2_with fail
  refine bodyPost_ret (v := .tuple #[nv N A ps.length c, .int .i64 z0, .slice (some ⟨q1, 0, none⟩) l1.length c1, .int .i64 z2]) (by simp [results, Try.results22, go_sem, s0, s1]) rfl ⟨N, A, c, ps, z0, q1, c1, l1, z2, rfl, hD.out.1, hl1, own_two (own_low HO1_2.out (by omega)), hD.out.2⟩
set_option maxHeartbeats 4000000 in
set_option maxRecDepth 100000 in
theorem dpress_any (a : Option Addr) (n cap : Nat) (w : World) (h : S1.Cd w.heap.size a n w) (hn : n ≤ 65536) :
    Calls Try.prog 40 #[.slice a n cap] w fun e w' => ∃ (N : Int) (A : Option Addr) (c : Nat) (ps : List Pp) (z0 : Int) (q1 c1 : Nat) (l1 : List Int) (z2 : Int) (q3 c3 : Nat) (l3 : List Int), e = .returned (.tuple #[nv N A ps.length c, .int .i64 z0, .slice (some ⟨q1, 0, none⟩) l1.length c1, .int .i64 z2, .slice (some ⟨q3, 0, none⟩) l3.length c3]) ∧ TNet (w.heap.size + 1) w' N A c ps ∧ l1.length ≤ 10 ∧ IOwn w' (w.heap.size + 1) (.slice (some ⟨q1, 0, none⟩) l1.length c1) l1 ∧ l3.length ≤ 10 ∧ IOwn w' (w.heap.size + 1) (.slice (some ⟨q3, 0, none⟩) l3.length c3) l3 ∧ Below w.heap.size w w' := by
  have HST := Lib.hid (cur_start cap (nb 0 none 0 0) h hn)
  clear h
  go_enter Try.func40, Try.ntmps40
  refine Hid.out ?_
  refine Lib.hid ?_
  go_wp2_with (first | (go_at_call 75; refine (tree_draw (w.heap.size + 1) (w.heap.size + 1) a n cap 0 _ (by omega) HST.out (by simp)).mono ?_; rintro e w1 ⟨N, A, c, ps, rfl, hd, hs, hg⟩; refine Hid.out ?_) | fail)
  have hz1 : w.heap.size + 2 ≤ w1.heap.size := by have := hg.size; simp at this; omega
  have HI0 := Lib.hid (show DI w (w1.alloc (nb N A ps.length c)) a n cap 1000 w1.heap.size N A c ps from
    ⟨S1.st_new (hs.more (by omega)) _, (below2 hg (by omega)).trans ((alloc_below w1 _).mono (by omega)), (hd.low (by simp)).on (alloc_below _ _), TN.made w1 _ _, (((TN.made w (.int .i64 0) (.slice none 0 0)).below (alloc_below _ _)).grown hg (by omega)).below (alloc_below _ _), by omega⟩)
  clear hd hs hg HST
  refine Lib.hid ?_
  go_upto_region 3 with (fail)
  obtain ⟨wa, hwa⟩ : ∃ wa, w1.alloc (nb N A ps.length c) = wa := ⟨_, rfl⟩
  rw [hwa] at HI0 ⊢
  clear hwa
  have hN9 := HI0.out.net.n9
  have hT9 : w.heap.size + 1 < w1.heap.size := HI0.out.tw
  obtain ⟨c0, c1⟩ := HI0.out.box.cell
  have hy0 := HI0.out.box.lt
  refine wp_region_held_drew (S := fun w' => w'.cell? ⟨w1.heap.size, 0, none⟩ = some (.int .i64 N) ∧ w'.cell? ⟨w1.heap.size, 1, none⟩ = some (.slice A ps.length c)) (by kernel_rfl) (by exact ⟨c0, c1⟩) (fun hHeld => ?_)
  refine wpAnyH_take (i := 0) (v := .agg #[.int .i64 N, .slice A ps.length c]) rfl (by kernel_rfl) (by kernel_rfl) (by kernel_rfl) (fun _ _ _ h => h) (Or.inl ⟨by kernel_rfl, ?_⟩) (by assumption) ?_
  · (intro w hSw; (try dsimp only at hSw); go_simp)
  simp only [Act.put, List.setIfInBounds_toArray]
  refine wpAnyH_take (i := 1) (v := .pointer (some ⟨w.heap.size + 1, 0, none⟩)) rfl (by kernel_rfl) (by kernel_rfl) (by kernel_rfl) (fun _ _ _ h => h) (Or.inl ⟨by kernel_rfl, ?_⟩) (by assumption) ?_
  · (intro w hSw; (try dsimp only at hSw); go_simp)
  simp only [Act.put]
  refine wpAnyH_take (i := 2) (v := .agg #[.int .i64 N, .slice A ps.length c]) rfl (by kernel_rfl) (by kernel_rfl) (by kernel_rfl) (fun _ _ _ h => h) (Or.inl ⟨by kernel_rfl, ?_⟩) (by assumption) ?_
  · (intro w hSw; (try dsimp only at hSw); go_simp)
  simp only [Act.put]
  refine wpAnyH_take (i := 4) (v := .pointer (some ⟨w.heap.size + 1, 0, none⟩)) rfl (by kernel_rfl) (by kernel_rfl) (by kernel_rfl) (fun _ _ _ h => h) (Or.inl ⟨by kernel_rfl, ?_⟩) (by assumption) ?_
  · (intro w hSw; (try dsimp only at hSw); go_simp)
  simp only [Act.put]
  refine wpAnyH_take (i := 5) (v := .agg #[.int .i64 N, .slice A ps.length c]) rfl (by kernel_rfl) (by kernel_rfl) (by kernel_rfl) (fun _ _ _ h => h) (Or.inl ⟨by kernel_rfl, ?_⟩) (by assumption) ?_
  · (intro w hSw; (try dsimp only at hSw); go_simp)
  simp only [Act.put]
  refine wpAnyH_take (i := 7) (v := .pointer (some ⟨w.heap.size + 1, 0, none⟩)) rfl (by kernel_rfl) (by kernel_rfl) (by kernel_rfl) (fun _ _ _ h => h) (Or.inl ⟨by kernel_rfl, ?_⟩) (by assumption) ?_
  · (intro w hSw; (try dsimp only at hSw); go_simp)
  simp only [Act.put]
  refine wpAnyH_take (i := 9) (v := .pointer (some ⟨w.heap.size + 1, 0, none⟩)) rfl (by kernel_rfl) (by kernel_rfl) (by kernel_rfl) (fun _ _ _ h => h) (Or.inl ⟨by kernel_rfl, ?_⟩) (by assumption) ?_
  · (intro w hSw; (try dsimp only at hSw); go_simp)
  simp only [Act.put, List.getElem_toArray, List.getElem_cons_succ, List.getElem_cons_zero]
  refine wpAnyH_take (i := 10) (v := .agg #[.int .i64 N, .slice A ps.length c]) rfl (by kernel_rfl) (by kernel_rfl) (by kernel_rfl) (fun _ _ _ h => h) (Or.inl ⟨by kernel_rfl, ?_⟩) (by assumption) ?_
  · (intro w hSw; (try dsimp only at hSw); go_simp)
  simp only [Act.put, List.getElem_toArray, List.getElem_cons_succ, List.getElem_cons_zero]
  have HI0x := Lib.hid (HI0.out.quiet (Below.refl _ _).drew)
  clear HI0 c0 c1
  refine wpAnyH_ready (rs := [3]) (by kernel_rfl) (by simp) ?_
  refine AllReadyH.cons rfl (fun K hK => ?_) AllReadyH.nil
  go_simp
  go_at_call 76
  refine (node_draw (w.heap.size + 1) (w.heap.size + 1) a n cap 1000 N A ps.length c _ (by omega) (by omega) HI0x.out.st).mono ?_
  rintro e v0 ⟨⟨z0, rfl⟩, hs, hg⟩
  have HI1 := Lib.hid (HI0x.out.call hs hg)
  clear hs hg
  obtain ⟨x0, y0⟩ := HI1.out.box.cell
  refine hK.out _ _ (by exact ⟨x0, y0⟩) (fun hHeld => ?_)
  clear hK K
  refine wpAnyH_ready (rs := [6]) (by kernel_rfl) (by simp) ?_
  refine AllReadyH.cons rfl (fun K hK => ?_) AllReadyH.nil
  go_simp
  go_at_call 77
  refine (demands_draw (w.heap.size + 1) (w.heap.size + 1) a n cap 1004 N A ps.length c _ (by omega) hN9 HI1.out.st (by have := HI1.out.box.lt; omega)).mono ?_
  rintro e v1 ⟨q1, c1, l1, rfl, hl1, ho, hs, hg⟩
  have HO1_1 := Lib.hid (own_low (B' := w.heap.size + 2) ho (by have := HI1.out.box.lt; omega))
  clear ho
  have HI2 := Lib.hid (HI1.out.call hs hg)
  clear hs hg
  obtain ⟨x1, y1⟩ := HI2.out.box.cell
  refine hK.out _ _ (by exact ⟨x1, y1⟩) (fun hHeld => ?_)
  clear hK K
  refine wpAnyH_ready (rs := [8]) (by kernel_rfl) (by simp) ?_
  refine AllReadyH.cons rfl (fun K hK => ?_) AllReadyH.nil
  go_simp
  go_at_call 95
  refine (head_draw (w.heap.size + 1) (w.heap.size + 1) a n cap 1104 _ (by omega) HI2.out.st).mono ?_
  rintro e v2 ⟨⟨z2, rfl⟩, hs, hg⟩
  have HO1_2 := Lib.hid (own_call HO1_1.out hg (by omega))
  have HI3 := Lib.hid (HI2.out.call hs hg)
  clear hs hg
  obtain ⟨x2, y2⟩ := HI3.out.box.cell
  refine hK.out _ _ (by exact ⟨x2, y2⟩) (fun hHeld => ?_)
  clear hK K
  refine wpAnyH_ready (rs := [11]) (by kernel_rfl) (by simp) ?_
  refine AllReadyH.cons rfl (fun K hK => ?_) AllReadyH.nil
  go_simp
  go_at_call 103
  refine (heights_draw (w.heap.size + 1) (w.heap.size + 1) a n cap 1106 N A ps.length c _ (by omega) hN9 HI3.out.st (by have := HI3.out.box.lt; omega)).mono ?_
  rintro e v3 ⟨q3, c3, l3, rfl, hl3, ho, hs, hg⟩
  have HO3_3 := Lib.hid (own_low (B' := w.heap.size + 2) ho (by have := HI3.out.box.lt; omega))
  have HO1_3 := Lib.hid (own_call HO1_2.out hg (by omega))
  clear ho
  have HI4 := Lib.hid (HI3.out.call hs hg)
  clear hs hg
  obtain ⟨x3, y3⟩ := HI4.out.box.cell
  obtain ⟨s0, s1⟩ := HI4.out.res.cell
  have sf := HI4.out.res.frozen
  have sz := HI4.out.res.lt
  refine hK.out _ _ (by exact ⟨x3, y3⟩) (fun hHeld => ?_)
  clear hK K
  have hD := Lib.hid (HI4.out.done (.int .i64 N) (.slice A ps.length c))
  refine wpAnyH_ready (rs := [12]) (by kernel_rfl) (by simp) ?_
  refine AllReadyH.cons rfl (fun K hK => ?_) AllReadyH.nil
  go_simp
  refine hK.out _ _ (by first | assumption | go_keep | exact (((HI4.out.box.other (p := ⟨w.heap.size, 0, none⟩) (.int .i64 N) (by show w1.heap.size ≠ w.heap.size; omega)).other (p := ⟨w.heap.size, 1, none⟩) (.slice A ps.length c) (by show w1.heap.size ≠ w.heap.size; omega)).cell)) (fun hHeld => ?_)
  clear hK K
  refine wpAnyH_ready (rs := [13]) (by kernel_rfl) (by simp) ?_
  refine AllReadyH.cons rfl (fun K hK => ?_) AllReadyH.nil
  go_simp
  refine hK.out _ _ (by first | assumption | go_keep | exact (((HI4.out.box.other (p := ⟨w.heap.size, 0, none⟩) (.int .i64 N) (by show w1.heap.size ≠ w.heap.size; omega)).other (p := ⟨w.heap.size, 1, none⟩) (.slice A ps.length c) (by show w1.heap.size ≠ w.heap.size; omega)).cell)) (fun hHeld => ?_)
  clear hK K
  refine wpAnyH_ready (rs := [14]) (by kernel_rfl) (by simp) ?_
  refine AllReadyH.cons rfl (fun K hK => ?_) AllReadyH.nil
  go_simp
  refine hK.out _ _ (by first | assumption | go_keep | exact (((HI4.out.box.other (p := ⟨w.heap.size, 0, none⟩) (.int .i64 N) (by show w1.heap.size ≠ w.heap.size; omega)).other (p := ⟨w.heap.size, 1, none⟩) (.slice A ps.length c) (by show w1.heap.size ≠ w.heap.size; omega)).cell)) (fun hHeld => ?_)
  clear hK K
  refine wpAnyH_ready (rs := [15]) (by kernel_rfl) (by simp) ?_
  refine AllReadyH.cons rfl (fun K hK => ?_) AllReadyH.nil
  go_simp
  refine hK.out _ _ (by first | assumption | go_keep | exact (((HI4.out.box.other (p := ⟨w.heap.size, 0, none⟩) (.int .i64 N) (by show w1.heap.size ≠ w.heap.size; omega)).other (p := ⟨w.heap.size, 1, none⟩) (.slice A ps.length c) (by show w1.heap.size ≠ w.heap.size; omega)).cell)) (fun hHeld => ?_)
  clear hK K
  refine wpAnyH_ready (rs := [16]) (by kernel_rfl) (by simp) ?_
  refine AllReadyH.cons rfl (fun K hK => ?_) AllReadyH.nil
  go_simp
  refine hK.out _ _ (by first | assumption | go_keep | exact (((HI4.out.box.other (p := ⟨w.heap.size, 0, none⟩) (.int .i64 N) (by show w1.heap.size ≠ w.heap.size; omega)).other (p := ⟨w.heap.size, 1, none⟩) (.slice A ps.length c) (by show w1.heap.size ≠ w.heap.size; omega)).cell)) (fun hHeld => ?_)
  clear hK K
  refine wpAnyH_done (by kernel_rfl) ?_ _
  clear hHeld
  go_wp2_with fail
  refine bodyPost_ret (v := .tuple #[nv N A ps.length c, .int .i64 z0, .slice (some ⟨q1, 0, none⟩) l1.length c1, .int .i64 z2, .slice (some ⟨q3, 0, none⟩) l3.length c3]) (by simp [results, Try.results40, go_sem, s0, s1]) rfl ⟨N, A, c, ps, z0, q1, c1, l1, z2, q3, c3, l3, rfl, hD.out.1, hl1, own_two (own_low HO1_3.out (by omega)), hl3, own_two (own_low HO3_3.out (by omega)), hD.out.2⟩
set_option maxHeartbeats 4000000 in
set_option maxRecDepth 100000 in
theorem dneed_any (a : Option Addr) (n cap : Nat) (w : World) (h : S1.Cd w.heap.size a n w) (hn : n ≤ 65536) :
    Calls Try.prog 27 #[.slice a n cap] w fun e w' => ∃ (N : Int) (A : Option Addr) (c : Nat) (ps : List Pp) (z0 : Int) (q1 c1 : Nat) (l1 : List Int) (q2 c2 : Nat) (l2 : List Int) (z3 : Int), e = .returned (.tuple #[nv N A ps.length c, .int .i64 z0, .slice (some ⟨q1, 0, none⟩) l1.length c1, .slice (some ⟨q2, 0, none⟩) l2.length c2, .int .i64 z3]) ∧ TNet (w.heap.size + 1) w' N A c ps ∧ l1.length ≤ 10 ∧ IOwn w' (w.heap.size + 1) (.slice (some ⟨q1, 0, none⟩) l1.length c1) l1 ∧ l2.length ≤ 10 ∧ IOwn w' (w.heap.size + 1) (.slice (some ⟨q2, 0, none⟩) l2.length c2) l2 ∧ Below w.heap.size w w' := by
  have HST := Lib.hid (cur_start cap (nb 0 none 0 0) h hn)
  clear h
  go_enter Try.func27, Try.ntmps27
  refine Hid.out ?_
  refine Lib.hid ?_
  go_wp2_with (first | (go_at_call 75; refine (tree_draw (w.heap.size + 1) (w.heap.size + 1) a n cap 0 _ (by omega) HST.out (by simp)).mono ?_; rintro e w1 ⟨N, A, c, ps, rfl, hd, hs, hg⟩; refine Hid.out ?_) | fail)
  have hz1 : w.heap.size + 2 ≤ w1.heap.size := by have := hg.size; simp at this; omega
  have HI0 := Lib.hid (show DI w (w1.alloc (nb N A ps.length c)) a n cap 1000 w1.heap.size N A c ps from
    ⟨S1.st_new (hs.more (by omega)) _, (below2 hg (by omega)).trans ((alloc_below w1 _).mono (by omega)), (hd.low (by simp)).on (alloc_below _ _), TN.made w1 _ _, (((TN.made w (.int .i64 0) (.slice none 0 0)).below (alloc_below _ _)).grown hg (by omega)).below (alloc_below _ _), by omega⟩)
  clear hd hs hg HST
  refine Lib.hid ?_
  go_upto_region 3 with (fail)
  obtain ⟨wa, hwa⟩ : ∃ wa, w1.alloc (nb N A ps.length c) = wa := ⟨_, rfl⟩
  rw [hwa] at HI0 ⊢
  clear hwa
  have hN9 := HI0.out.net.n9
  have hT9 : w.heap.size + 1 < w1.heap.size := HI0.out.tw
  obtain ⟨c0, c1⟩ := HI0.out.box.cell
  have hy0 := HI0.out.box.lt
  refine wp_region_held_drew (S := fun w' => w'.cell? ⟨w1.heap.size, 0, none⟩ = some (.int .i64 N) ∧ w'.cell? ⟨w1.heap.size, 1, none⟩ = some (.slice A ps.length c)) (by kernel_rfl) (by exact ⟨c0, c1⟩) (fun hHeld => ?_)
  refine wpAnyH_take (i := 0) (v := .agg #[.int .i64 N, .slice A ps.length c]) rfl (by kernel_rfl) (by kernel_rfl) (by kernel_rfl) (fun _ _ _ h => h) (Or.inl ⟨by kernel_rfl, ?_⟩) (by assumption) ?_
  · (intro w hSw; (try dsimp only at hSw); go_simp)
  simp only [Act.put, List.setIfInBounds_toArray]
  refine wpAnyH_take (i := 1) (v := .pointer (some ⟨w.heap.size + 1, 0, none⟩)) rfl (by kernel_rfl) (by kernel_rfl) (by kernel_rfl) (fun _ _ _ h => h) (Or.inl ⟨by kernel_rfl, ?_⟩) (by assumption) ?_
  · (intro w hSw; (try dsimp only at hSw); go_simp)
  simp only [Act.put]
  refine wpAnyH_take (i := 2) (v := .agg #[.int .i64 N, .slice A ps.length c]) rfl (by kernel_rfl) (by kernel_rfl) (by kernel_rfl) (fun _ _ _ h => h) (Or.inl ⟨by kernel_rfl, ?_⟩) (by assumption) ?_
  · (intro w hSw; (try dsimp only at hSw); go_simp)
  simp only [Act.put]
  refine wpAnyH_take (i := 4) (v := .pointer (some ⟨w.heap.size + 1, 0, none⟩)) rfl (by kernel_rfl) (by kernel_rfl) (by kernel_rfl) (fun _ _ _ h => h) (Or.inl ⟨by kernel_rfl, ?_⟩) (by assumption) ?_
  · (intro w hSw; (try dsimp only at hSw); go_simp)
  simp only [Act.put]
  refine wpAnyH_take (i := 5) (v := .agg #[.int .i64 N, .slice A ps.length c]) rfl (by kernel_rfl) (by kernel_rfl) (by kernel_rfl) (fun _ _ _ h => h) (Or.inl ⟨by kernel_rfl, ?_⟩) (by assumption) ?_
  · (intro w hSw; (try dsimp only at hSw); go_simp)
  simp only [Act.put]
  refine wpAnyH_take (i := 7) (v := .pointer (some ⟨w.heap.size + 1, 0, none⟩)) rfl (by kernel_rfl) (by kernel_rfl) (by kernel_rfl) (fun _ _ _ h => h) (Or.inl ⟨by kernel_rfl, ?_⟩) (by assumption) ?_
  · (intro w hSw; (try dsimp only at hSw); go_simp)
  simp only [Act.put]
  refine wpAnyH_take (i := 8) (v := .agg #[.int .i64 N, .slice A ps.length c]) rfl (by kernel_rfl) (by kernel_rfl) (by kernel_rfl) (fun _ _ _ h => h) (Or.inl ⟨by kernel_rfl, ?_⟩) (by assumption) ?_
  · (intro w hSw; (try dsimp only at hSw); go_simp)
  simp only [Act.put]
  refine wpAnyH_take (i := 10) (v := .pointer (some ⟨w.heap.size + 1, 0, none⟩)) rfl (by kernel_rfl) (by kernel_rfl) (by kernel_rfl) (fun _ _ _ h => h) (Or.inl ⟨by kernel_rfl, ?_⟩) (by assumption) ?_
  · (intro w hSw; (try dsimp only at hSw); go_simp)
  simp only [Act.put, List.getElem_toArray, List.getElem_cons_succ, List.getElem_cons_zero]
  have HI0x := Lib.hid (HI0.out.quiet (Below.refl _ _).drew)
  clear HI0 c0 c1
  refine wpAnyH_ready (rs := [3]) (by kernel_rfl) (by simp) ?_
  refine AllReadyH.cons rfl (fun K hK => ?_) AllReadyH.nil
  go_simp
  go_at_call 76
  refine (node_draw (w.heap.size + 1) (w.heap.size + 1) a n cap 1000 N A ps.length c _ (by omega) (by omega) HI0x.out.st).mono ?_
  rintro e v0 ⟨⟨z0, rfl⟩, hs, hg⟩
  have HI1 := Lib.hid (HI0x.out.call hs hg)
  clear hs hg
  obtain ⟨x0, y0⟩ := HI1.out.box.cell
  refine hK.out _ _ (by exact ⟨x0, y0⟩) (fun hHeld => ?_)
  clear hK K
  refine wpAnyH_ready (rs := [6]) (by kernel_rfl) (by simp) ?_
  refine AllReadyH.cons rfl (fun K hK => ?_) AllReadyH.nil
  go_simp
  go_at_call 77
  refine (demands_draw (w.heap.size + 1) (w.heap.size + 1) a n cap 1004 N A ps.length c _ (by omega) hN9 HI1.out.st (by have := HI1.out.box.lt; omega)).mono ?_
  rintro e v1 ⟨q1, c1, l1, rfl, hl1, ho, hs, hg⟩
  have HO1_1 := Lib.hid (own_low (B' := w.heap.size + 2) ho (by have := HI1.out.box.lt; omega))
  clear ho
  have HI2 := Lib.hid (HI1.out.call hs hg)
  clear hs hg
  obtain ⟨x1, y1⟩ := HI2.out.box.cell
  refine hK.out _ _ (by exact ⟨x1, y1⟩) (fun hHeld => ?_)
  clear hK K
  refine wpAnyH_ready (rs := [9]) (by kernel_rfl) (by simp) ?_
  refine AllReadyH.cons rfl (fun K hK => ?_) AllReadyH.nil
  go_simp
  go_at_call 103
  refine (heights_draw (w.heap.size + 1) (w.heap.size + 1) a n cap 1104 N A ps.length c _ (by omega) hN9 HI2.out.st (by have := HI2.out.box.lt; omega)).mono ?_
  rintro e v2 ⟨q2, c2, l2, rfl, hl2, ho, hs, hg⟩
  have HO2_2 := Lib.hid (own_low (B' := w.heap.size + 2) ho (by have := HI2.out.box.lt; omega))
  have HO1_2 := Lib.hid (own_call HO1_1.out hg (by omega))
  clear ho
  have HI3 := Lib.hid (HI2.out.call hs hg)
  clear hs hg
  obtain ⟨x2, y2⟩ := HI3.out.box.cell
  refine hK.out _ _ (by exact ⟨x2, y2⟩) (fun hHeld => ?_)
  clear hK K
  refine wpAnyH_ready (rs := [11]) (by kernel_rfl) (by simp) ?_
  refine AllReadyH.cons rfl (fun K hK => ?_) AllReadyH.nil
  go_simp
  go_at_call 95
  refine (head_draw (w.heap.size + 1) (w.heap.size + 1) a n cap 1204 _ (by omega) HI3.out.st).mono ?_
  rintro e v3 ⟨⟨z3, rfl⟩, hs, hg⟩
  have HO1_3 := Lib.hid (own_call HO1_2.out hg (by omega))
  have HO2_3 := Lib.hid (own_call HO2_2.out hg (by omega))
  have HI4 := Lib.hid (HI3.out.call hs hg)
  clear hs hg
  obtain ⟨x3, y3⟩ := HI4.out.box.cell
  obtain ⟨s0, s1⟩ := HI4.out.res.cell
  have sf := HI4.out.res.frozen
  have sz := HI4.out.res.lt
  refine hK.out _ _ (by exact ⟨x3, y3⟩) (fun hHeld => ?_)
  clear hK K
  have hD := Lib.hid (HI4.out.done (.int .i64 N) (.slice A ps.length c))
  refine wpAnyH_ready (rs := [12]) (by kernel_rfl) (by simp) ?_
  refine AllReadyH.cons rfl (fun K hK => ?_) AllReadyH.nil
  go_simp
  refine hK.out _ _ (by first | assumption | go_keep | exact (((HI4.out.box.other (p := ⟨w.heap.size, 0, none⟩) (.int .i64 N) (by show w1.heap.size ≠ w.heap.size; omega)).other (p := ⟨w.heap.size, 1, none⟩) (.slice A ps.length c) (by show w1.heap.size ≠ w.heap.size; omega)).cell)) (fun hHeld => ?_)
  clear hK K
  refine wpAnyH_ready (rs := [13]) (by kernel_rfl) (by simp) ?_
  refine AllReadyH.cons rfl (fun K hK => ?_) AllReadyH.nil
  go_simp
  refine hK.out _ _ (by first | assumption | go_keep | exact (((HI4.out.box.other (p := ⟨w.heap.size, 0, none⟩) (.int .i64 N) (by show w1.heap.size ≠ w.heap.size; omega)).other (p := ⟨w.heap.size, 1, none⟩) (.slice A ps.length c) (by show w1.heap.size ≠ w.heap.size; omega)).cell)) (fun hHeld => ?_)
  clear hK K
  refine wpAnyH_ready (rs := [14]) (by kernel_rfl) (by simp) ?_
  refine AllReadyH.cons rfl (fun K hK => ?_) AllReadyH.nil
  go_simp
  refine hK.out _ _ (by first | assumption | go_keep | exact (((HI4.out.box.other (p := ⟨w.heap.size, 0, none⟩) (.int .i64 N) (by show w1.heap.size ≠ w.heap.size; omega)).other (p := ⟨w.heap.size, 1, none⟩) (.slice A ps.length c) (by show w1.heap.size ≠ w.heap.size; omega)).cell)) (fun hHeld => ?_)
  clear hK K
  refine wpAnyH_ready (rs := [15]) (by kernel_rfl) (by simp) ?_
  refine AllReadyH.cons rfl (fun K hK => ?_) AllReadyH.nil
  go_simp
  refine hK.out _ _ (by first | assumption | go_keep | exact (((HI4.out.box.other (p := ⟨w.heap.size, 0, none⟩) (.int .i64 N) (by show w1.heap.size ≠ w.heap.size; omega)).other (p := ⟨w.heap.size, 1, none⟩) (.slice A ps.length c) (by show w1.heap.size ≠ w.heap.size; omega)).cell)) (fun hHeld => ?_)
  clear hK K
  refine wpAnyH_ready (rs := [16]) (by kernel_rfl) (by simp) ?_
  refine AllReadyH.cons rfl (fun K hK => ?_) AllReadyH.nil
  go_simp
  refine hK.out _ _ (by first | assumption | go_keep | exact (((HI4.out.box.other (p := ⟨w.heap.size, 0, none⟩) (.int .i64 N) (by show w1.heap.size ≠ w.heap.size; omega)).other (p := ⟨w.heap.size, 1, none⟩) (.slice A ps.length c) (by show w1.heap.size ≠ w.heap.size; omega)).cell)) (fun hHeld => ?_)
  clear hK K
  refine wpAnyH_done (by kernel_rfl) ?_ _
  clear hHeld
  go_wp2_with fail
  refine bodyPost_ret (v := .tuple #[nv N A ps.length c, .int .i64 z0, .slice (some ⟨q1, 0, none⟩) l1.length c1, .slice (some ⟨q2, 0, none⟩) l2.length c2, .int .i64 z3]) (by simp [results, Try.results27, go_sem, s0, s1]) rfl ⟨N, A, c, ps, z0, q1, c1, l1, q2, c2, l2, z3, rfl, hD.out.1, hl1, own_two (own_low HO1_3.out (by omega)), hl2, own_two (own_low HO2_3.out (by omega)), hD.out.2⟩
set_option maxHeartbeats 4000000 in
set_option maxRecDepth 100000 in
theorem dweak_any (a : Option Addr) (n cap : Nat) (w : World) (h : S1.Cd w.heap.size a n w) (hn : n ≤ 65536) :
    Calls Try.prog 31 #[.slice a n cap] w fun e w' => ∃ (N : Int) (A : Option Addr) (c : Nat) (ps : List Pp) (z0 : Int) (q1 c1 : Nat) (l1 : List Int) (z2 : Int) (q3 c3 : Nat) (l3 : List Int) (z4 : Int), e = .returned (.tuple #[nv N A ps.length c, .int .i64 z0, .slice (some ⟨q1, 0, none⟩) l1.length c1, .int .i64 z2, .slice (some ⟨q3, 0, none⟩) l3.length c3, .int .i64 z4]) ∧ TNet (w.heap.size + 1) w' N A c ps ∧ l1.length ≤ 10 ∧ IOwn w' (w.heap.size + 1) (.slice (some ⟨q1, 0, none⟩) l1.length c1) l1 ∧ l3.length ≤ 10 ∧ IOwn w' (w.heap.size + 1) (.slice (some ⟨q3, 0, none⟩) l3.length c3) l3 ∧ Below w.heap.size w w' := by
  have HST := Lib.hid (cur_start cap (nb 0 none 0 0) h hn)
  clear h
  go_enter Try.func31, Try.ntmps31
  refine Hid.out ?_
  refine Lib.hid ?_
  go_wp2_with (first | (go_at_call 75; refine (tree_draw (w.heap.size + 1) (w.heap.size + 1) a n cap 0 _ (by omega) HST.out (by simp)).mono ?_; rintro e w1 ⟨N, A, c, ps, rfl, hd, hs, hg⟩; refine Hid.out ?_) | fail)
  have hz1 : w.heap.size + 2 ≤ w1.heap.size := by have := hg.size; simp at this; omega
  have HI0 := Lib.hid (show DI w (w1.alloc (nb N A ps.length c)) a n cap 1000 w1.heap.size N A c ps from
    ⟨S1.st_new (hs.more (by omega)) _, (below2 hg (by omega)).trans ((alloc_below w1 _).mono (by omega)), (hd.low (by simp)).on (alloc_below _ _), TN.made w1 _ _, (((TN.made w (.int .i64 0) (.slice none 0 0)).below (alloc_below _ _)).grown hg (by omega)).below (alloc_below _ _), by omega⟩)
  clear hd hs hg HST
  refine Lib.hid ?_
  go_upto_region 3 with (fail)
  obtain ⟨wa, hwa⟩ : ∃ wa, w1.alloc (nb N A ps.length c) = wa := ⟨_, rfl⟩
  rw [hwa] at HI0 ⊢
  clear hwa
  have hN9 := HI0.out.net.n9
  have hT9 : w.heap.size + 1 < w1.heap.size := HI0.out.tw
  obtain ⟨c0, c1⟩ := HI0.out.box.cell
  have hy0 := HI0.out.box.lt
  refine wp_region_held_drew (S := fun w' => w'.cell? ⟨w1.heap.size, 0, none⟩ = some (.int .i64 N) ∧ w'.cell? ⟨w1.heap.size, 1, none⟩ = some (.slice A ps.length c)) (by kernel_rfl) (by exact ⟨c0, c1⟩) (fun hHeld => ?_)
  refine wpAnyH_take (i := 0) (v := .agg #[.int .i64 N, .slice A ps.length c]) rfl (by kernel_rfl) (by kernel_rfl) (by kernel_rfl) (fun _ _ _ h => h) (Or.inl ⟨by kernel_rfl, ?_⟩) (by assumption) ?_
  · (intro w hSw; (try dsimp only at hSw); go_simp)
  simp only [Act.put, List.setIfInBounds_toArray]
  refine wpAnyH_take (i := 1) (v := .pointer (some ⟨w.heap.size + 1, 0, none⟩)) rfl (by kernel_rfl) (by kernel_rfl) (by kernel_rfl) (fun _ _ _ h => h) (Or.inl ⟨by kernel_rfl, ?_⟩) (by assumption) ?_
  · (intro w hSw; (try dsimp only at hSw); go_simp)
  simp only [Act.put]
  refine wpAnyH_take (i := 2) (v := .agg #[.int .i64 N, .slice A ps.length c]) rfl (by kernel_rfl) (by kernel_rfl) (by kernel_rfl) (fun _ _ _ h => h) (Or.inl ⟨by kernel_rfl, ?_⟩) (by assumption) ?_
  · (intro w hSw; (try dsimp only at hSw); go_simp)
  simp only [Act.put]
  refine wpAnyH_take (i := 4) (v := .pointer (some ⟨w.heap.size + 1, 0, none⟩)) rfl (by kernel_rfl) (by kernel_rfl) (by kernel_rfl) (fun _ _ _ h => h) (Or.inl ⟨by kernel_rfl, ?_⟩) (by assumption) ?_
  · (intro w hSw; (try dsimp only at hSw); go_simp)
  simp only [Act.put]
  refine wpAnyH_take (i := 5) (v := .agg #[.int .i64 N, .slice A ps.length c]) rfl (by kernel_rfl) (by kernel_rfl) (by kernel_rfl) (fun _ _ _ h => h) (Or.inl ⟨by kernel_rfl, ?_⟩) (by assumption) ?_
  · (intro w hSw; (try dsimp only at hSw); go_simp)
  simp only [Act.put]
  refine wpAnyH_take (i := 7) (v := .pointer (some ⟨w.heap.size + 1, 0, none⟩)) rfl (by kernel_rfl) (by kernel_rfl) (by kernel_rfl) (fun _ _ _ h => h) (Or.inl ⟨by kernel_rfl, ?_⟩) (by assumption) ?_
  · (intro w hSw; (try dsimp only at hSw); go_simp)
  simp only [Act.put]
  refine wpAnyH_take (i := 9) (v := .pointer (some ⟨w.heap.size + 1, 0, none⟩)) rfl (by kernel_rfl) (by kernel_rfl) (by kernel_rfl) (fun _ _ _ h => h) (Or.inl ⟨by kernel_rfl, ?_⟩) (by assumption) ?_
  · (intro w hSw; (try dsimp only at hSw); go_simp)
  simp only [Act.put, List.getElem_toArray, List.getElem_cons_succ, List.getElem_cons_zero]
  refine wpAnyH_take (i := 10) (v := .agg #[.int .i64 N, .slice A ps.length c]) rfl (by kernel_rfl) (by kernel_rfl) (by kernel_rfl) (fun _ _ _ h => h) (Or.inl ⟨by kernel_rfl, ?_⟩) (by assumption) ?_
  · (intro w hSw; (try dsimp only at hSw); go_simp)
  simp only [Act.put, List.getElem_toArray, List.getElem_cons_succ, List.getElem_cons_zero]
  refine wpAnyH_take (i := 12) (v := .pointer (some ⟨w.heap.size + 1, 0, none⟩)) rfl (by kernel_rfl) (by kernel_rfl) (by kernel_rfl) (fun _ _ _ h => h) (Or.inl ⟨by kernel_rfl, ?_⟩) (by assumption) ?_
  · (intro w hSw; (try dsimp only at hSw); go_simp)
  simp only [Act.put, List.getElem_toArray, List.getElem_cons_succ, List.getElem_cons_zero]
  have HI0x := Lib.hid (HI0.out.quiet (Below.refl _ _).drew)
  clear HI0 c0 c1
  refine wpAnyH_ready (rs := [3]) (by kernel_rfl) (by simp) ?_
  refine AllReadyH.cons rfl (fun K hK => ?_) AllReadyH.nil
  go_simp
  go_at_call 76
  refine (node_draw (w.heap.size + 1) (w.heap.size + 1) a n cap 1000 N A ps.length c _ (by omega) (by omega) HI0x.out.st).mono ?_
  rintro e v0 ⟨⟨z0, rfl⟩, hs, hg⟩
  have HI1 := Lib.hid (HI0x.out.call hs hg)
  clear hs hg
  obtain ⟨x0, y0⟩ := HI1.out.box.cell
  refine hK.out _ _ (by exact ⟨x0, y0⟩) (fun hHeld => ?_)
  clear hK K
  refine wpAnyH_ready (rs := [6]) (by kernel_rfl) (by simp) ?_
  refine AllReadyH.cons rfl (fun K hK => ?_) AllReadyH.nil
  go_simp
  go_at_call 77
  refine (demands_draw (w.heap.size + 1) (w.heap.size + 1) a n cap 1004 N A ps.length c _ (by omega) hN9 HI1.out.st (by have := HI1.out.box.lt; omega)).mono ?_
  rintro e v1 ⟨q1, c1, l1, rfl, hl1, ho, hs, hg⟩
  have HO1_1 := Lib.hid (own_low (B' := w.heap.size + 2) ho (by have := HI1.out.box.lt; omega))
  clear ho
  have HI2 := Lib.hid (HI1.out.call hs hg)
  clear hs hg
  obtain ⟨x1, y1⟩ := HI2.out.box.cell
  refine hK.out _ _ (by exact ⟨x1, y1⟩) (fun hHeld => ?_)
  clear hK K
  refine wpAnyH_ready (rs := [8]) (by kernel_rfl) (by simp) ?_
  refine AllReadyH.cons rfl (fun K hK => ?_) AllReadyH.nil
  go_simp
  go_at_call 95
  refine (head_draw (w.heap.size + 1) (w.heap.size + 1) a n cap 1104 _ (by omega) HI2.out.st).mono ?_
  rintro e v2 ⟨⟨z2, rfl⟩, hs, hg⟩
  have HO1_2 := Lib.hid (own_call HO1_1.out hg (by omega))
  have HI3 := Lib.hid (HI2.out.call hs hg)
  clear hs hg
  obtain ⟨x2, y2⟩ := HI3.out.box.cell
  refine hK.out _ _ (by exact ⟨x2, y2⟩) (fun hHeld => ?_)
  clear hK K
  refine wpAnyH_ready (rs := [11]) (by kernel_rfl) (by simp) ?_
  refine AllReadyH.cons rfl (fun K hK => ?_) AllReadyH.nil
  go_simp
  go_at_call 103
  refine (heights_draw (w.heap.size + 1) (w.heap.size + 1) a n cap 1106 N A ps.length c _ (by omega) hN9 HI3.out.st (by have := HI3.out.box.lt; omega)).mono ?_
  rintro e v3 ⟨q3, c3, l3, rfl, hl3, ho, hs, hg⟩
  have HO3_3 := Lib.hid (own_low (B' := w.heap.size + 2) ho (by have := HI3.out.box.lt; omega))
  have HO1_3 := Lib.hid (own_call HO1_2.out hg (by omega))
  clear ho
  have HI4 := Lib.hid (HI3.out.call hs hg)
  clear hs hg
  obtain ⟨x3, y3⟩ := HI4.out.box.cell
  refine hK.out _ _ (by exact ⟨x3, y3⟩) (fun hHeld => ?_)
  clear hK K
  refine wpAnyH_ready (rs := [13]) (by kernel_rfl) (by simp) ?_
  refine AllReadyH.cons rfl (fun K hK => ?_) AllReadyH.nil
  go_simp
  go_at_call 95
  refine (head_draw (w.heap.size + 1) (w.heap.size + 1) a n cap 1206 _ (by omega) HI4.out.st).mono ?_
  rintro e v4 ⟨⟨z4, rfl⟩, hs, hg⟩
  have HO1_4 := Lib.hid (own_call HO1_3.out hg (by omega))
  have HO3_4 := Lib.hid (own_call HO3_3.out hg (by omega))
  have HI5 := Lib.hid (HI4.out.call hs hg)
  clear hs hg
  obtain ⟨x4, y4⟩ := HI5.out.box.cell
  obtain ⟨s0, s1⟩ := HI5.out.res.cell
  have sf := HI5.out.res.frozen
  have sz := HI5.out.res.lt
  refine hK.out _ _ (by exact ⟨x4, y4⟩) (fun hHeld => ?_)
  clear hK K
  have hD := Lib.hid (HI5.out.done (.int .i64 N) (.slice A ps.length c))
  refine wpAnyH_ready (rs := [14]) (by kernel_rfl) (by simp) ?_
  refine AllReadyH.cons rfl (fun K hK => ?_) AllReadyH.nil
  go_simp
  refine hK.out _ _ (by first | assumption | go_keep | exact (((HI5.out.box.other (p := ⟨w.heap.size, 0, none⟩) (.int .i64 N) (by show w1.heap.size ≠ w.heap.size; omega)).other (p := ⟨w.heap.size, 1, none⟩) (.slice A ps.length c) (by show w1.heap.size ≠ w.heap.size; omega)).cell)) (fun hHeld => ?_)
  clear hK K
  refine wpAnyH_ready (rs := [15]) (by kernel_rfl) (by simp) ?_
  refine AllReadyH.cons rfl (fun K hK => ?_) AllReadyH.nil
  go_simp
  refine hK.out _ _ (by first | assumption | go_keep | exact (((HI5.out.box.other (p := ⟨w.heap.size, 0, none⟩) (.int .i64 N) (by show w1.heap.size ≠ w.heap.size; omega)).other (p := ⟨w.heap.size, 1, none⟩) (.slice A ps.length c) (by show w1.heap.size ≠ w.heap.size; omega)).cell)) (fun hHeld => ?_)
  clear hK K
  refine wpAnyH_ready (rs := [16]) (by kernel_rfl) (by simp) ?_
  refine AllReadyH.cons rfl (fun K hK => ?_) AllReadyH.nil
  go_simp
  refine hK.out _ _ (by first | assumption | go_keep | exact (((HI5.out.box.other (p := ⟨w.heap.size, 0, none⟩) (.int .i64 N) (by show w1.heap.size ≠ w.heap.size; omega)).other (p := ⟨w.heap.size, 1, none⟩) (.slice A ps.length c) (by show w1.heap.size ≠ w.heap.size; omega)).cell)) (fun hHeld => ?_)
  clear hK K
  refine wpAnyH_ready (rs := [17]) (by kernel_rfl) (by simp) ?_
  refine AllReadyH.cons rfl (fun K hK => ?_) AllReadyH.nil
  go_simp
  refine hK.out _ _ (by first | assumption | go_keep | exact (((HI5.out.box.other (p := ⟨w.heap.size, 0, none⟩) (.int .i64 N) (by show w1.heap.size ≠ w.heap.size; omega)).other (p := ⟨w.heap.size, 1, none⟩) (.slice A ps.length c) (by show w1.heap.size ≠ w.heap.size; omega)).cell)) (fun hHeld => ?_)
  clear hK K
  refine wpAnyH_ready (rs := [18]) (by kernel_rfl) (by simp) ?_
  refine AllReadyH.cons rfl (fun K hK => ?_) AllReadyH.nil
  go_simp
  refine hK.out _ _ (by first | assumption | go_keep | exact (((HI5.out.box.other (p := ⟨w.heap.size, 0, none⟩) (.int .i64 N) (by show w1.heap.size ≠ w.heap.size; omega)).other (p := ⟨w.heap.size, 1, none⟩) (.slice A ps.length c) (by show w1.heap.size ≠ w.heap.size; omega)).cell)) (fun hHeld => ?_)
  clear hK K
  refine wpAnyH_ready (rs := [19]) (by kernel_rfl) (by simp) ?_
  refine AllReadyH.cons rfl (fun K hK => ?_) AllReadyH.nil
  go_simp
  refine hK.out _ _ (by first | assumption | go_keep | exact (((HI5.out.box.other (p := ⟨w.heap.size, 0, none⟩) (.int .i64 N) (by show w1.heap.size ≠ w.heap.size; omega)).other (p := ⟨w.heap.size, 1, none⟩) (.slice A ps.length c) (by show w1.heap.size ≠ w.heap.size; omega)).cell)) (fun hHeld => ?_)
  clear hK K
  refine wpAnyH_done (by kernel_rfl) ?_ _
  clear hHeld
  go_wp2_with fail
  refine bodyPost_ret (v := .tuple #[nv N A ps.length c, .int .i64 z0, .slice (some ⟨q1, 0, none⟩) l1.length c1, .int .i64 z2, .slice (some ⟨q3, 0, none⟩) l3.length c3, .int .i64 z4]) (by simp [results, Try.results31, go_sem, s0, s1]) rfl ⟨N, A, c, ps, z0, q1, c1, l1, z2, q3, c3, l3, z4, rfl, hD.out.1, hl1, own_two (own_low HO1_4.out (by omega)), hl3, own_two (own_low HO3_4.out (by omega)), hD.out.2⟩
end Go.Proofs.Ytikppgbipdflbab.S2

namespace Go.Proofs.Ytikppgbipdflbab.S2
open Go.RowKit Go.Sort P2

theorem LI.quiet {w wr w2 : World} {B g : Nat} {a : Option Addr} {n cap K : Nat} {N : Int} {u v : Value} {l : List Int} (h : LI w wr B g a n cap K N u v l) (hb : Below wr.heap.size wr w2) : LI w w2 B g a n cap K N u v l :=
  ⟨h.st.other hb, S1.grown_trans h.gr (grown_of hb), h.own.on hb, h.box.below hb, h.gw⟩
theorem LI.row {w wr : World} {B g : Nat} {a : Option Addr} {n cap K : Nat} {N : Int} {u v v2 : Value} {l l2 : List Int} (h : LI w wr B g a n cap K N u v l) (ho : IOwn wr (w.heap.size + 1) v2 l2) : LI w wr B g a n cap K N u v2 l2 :=
  ⟨h.st, h.gr, ho, h.box, h.gw⟩
/-- The length of a slice. -/
def slN : Value → Nat
  | .slice _ k _ => k
  | _ => 0
theorem slN_of (q k c : Nat) : slN (.slice (some ⟨q, 0, none⟩) k c) = k := rfl
set_option maxHeartbeats 8000000 in
set_option maxRecDepth 100000 in
theorem flows_draw (B g : Nat) (a : Option Addr) (n cap K : Nat) (N : Int) (A : Option Addr) (c : Nat) (ps : List Pp) (s : Int) (AD : Option Addr) (dc : Nat) (dm : List Int) (w : World) (hK : K ≤ 800000) (hpl : ps.length ≤ 12) (hpc : ps.length ≤ c) (hp : PAt w A ps) (hd : IAt w AD dm) (hdl : dm.length ≤ 20) (h : S1.St B g a n cap K w) (hgw : g < w.heap.size) :
    Calls Try.prog 168 #[.pointer (some ⟨g, 0, none⟩), nv N A ps.length c, .int .i64 s, .slice AD dm.length dc] w (LPost B g a n cap (K + 100) 13 w) := by
  have hBg := h.bg
  obtain ⟨i0, hi, hz0, hz1, hz2⟩ := info_parts infoI
  have HL0 := Lib.hid (show LI w ((w.alloc (nb N A ps.length c)).alloc (.cells #[] 3)) B g a n cap K N (.slice A ps.length c) (.slice (some ⟨w.heap.size + 1, 0, none⟩) 0 0) [] from by
    have h1 := own_empty (w.alloc (nb N A ps.length c)) (w.heap.size + 1) (by simp)
    rw [size_alloc] at h1
    exact ⟨S1.st_new (S1.st_new h _) _, S1.grown_new (World.grownBy_alloc w _ (some g)) _, h1, (TN.made w _ _).below (alloc_below _ _), hgw⟩)
  have HB0 := Lib.hid (show Below w.heap.size w ((w.alloc (nb N A ps.length c)).alloc (.cells #[] 3)) from (alloc_below w _).trans ((alloc_below _ _).mono (by simp)))
  have HP := Lib.hid (fun w' (hb : Below w.heap.size w w') => hp.kept hb (Nat.le_refl _))
  have HD := Lib.hid (fun w' (hb : Below w.heap.size w w') => hd.kept hb (Nat.le_refl _))
  have HN := Lib.hid (fun w' (hb : Below w.heap.size w w') => snode_any N A c ps s w' (HP.out w' hb) (by unfold maxLen; omega))
  have HM := Lib.hid (fun w' (hb : Below w.heap.size w w') => sdem_any N A ps.length c AD dc dm w' (HD.out w' hb) (by omega))
  clear h hp hd
  obtain ⟨b1, hb1⟩ : ∃ b, nodeB N ps s = b := ⟨_, rfl⟩
  obtain ⟨b2, hb2⟩ : ∃ b, amtB dm N 0 1000 = b := ⟨_, rfl⟩
  obtain ⟨b3, hb3⟩ : ∃ b, treeB N.toNat ps = b := ⟨_, rfl⟩
  rw [hb1] at HN
  rw [hb2] at HM
  have HT : Hid (b1 = true → ∀ w', Below w.heap.size w w' → Calls Try.prog 84 #[nv N A ps.length c] w' fun e w'_1 => e = .returned (.bool b3) ∧ Below w'.heap.size w' w'_1) := Lib.hid (fun e w' hb => by
    have hn := nodeB_of (hb1.trans e)
    have hN : ((N.toNat : Nat) : Int) = N := by have := hn.1.1; omega
    have hh := stree_v (N := N.toNat) hb3 A c w' (HP.out w' hb) (by rw [hN]; exact hn.1)
    rw [hN] at hh
    exact hh)
  have HF : Hid (b1 = true → b2 = true → ∀ w', Below w.heap.size w w' → Calls Try.prog 85 #[nv N A ps.length c, .int .i64 s, .slice AD dm.length dc] w' (GivesL w' (tfL N.toNat ps s dm))) := Lib.hid (fun e e2 w' hb => by
    have hn := nodeB_of (hb1.trans e)
    have hN : ((N.toNat : Nat) : Int) = N := by have := hn.1.1; omega
    have hs : ((s.toNat : Nat) : Int) = s := by have := hn.2.1; omega
    have ha := hb2.trans e2
    simp only [amtB, Bool.and_eq_true, decide_eq_true_eq] at ha
    have hh := stf_any N.toNat s.toNat A c ps AD dc dm w' (HP.out w' hb) hpc (HD.out w' hb) (by rw [hN]; exact hn.1) (by have := hn.2.1; omega) (by have := hn.2.1; have := hn.2.2; omega) ha.2 (by rw [hN]; exact ha.1)
    rw [hN, hs] at hh
    exact hh)
  obtain ⟨F, hF⟩ : ∃ F, tfL N.toNat ps s dm = F := ⟨_, rfl⟩
  have hFl : F.length = ps.length := by rw [← hF]; exact tfL_len _ _ _ _
  rw [hF] at HF
  clear hb1 hb2 hb3 hF HP HD
  go_enter Try.func168, Try.ntmps168
  go_upto_region 2 with (fail)
  go_cut [22] (fun st wx => ∃ cb : Bool, st = .bool cb ∧ (cb = true → b1 = true ∧ b2 = true) ∧ Hid (Below w.heap.size w wx) ∧ Hid (LI w wx B g a n cap K N (.slice A ps.length c) (.slice (some ⟨w.heap.size + 1, 0, none⟩) 0 0) []))
  case first =>
    obtain ⟨d0, d1⟩ := HL0.out.box.cell
    have dz := HL0.out.box.lt
    cases b1 with
    | false =>
      go_wp2_with (first | (go_at_call 82; refine (HN.out _ HB0.out).mono ?_; rintro e wx1 ⟨rfl, hbx⟩; have HLX1 := Lib.hid (HL0.out.quiet hbx); have HBX1 := Lib.hid (HB0.out.trans (hbx.mono HB0.out.size)); clear hbx d0 d1 dz; obtain ⟨d0, d1⟩ := HLX1.out.box.cell; have dz := HLX1.out.box.lt) | fail)
      go_meet
      exact ⟨false, rfl, by simp, HBX1, HLX1⟩
    | true =>
      cases b2 with
      | false =>
        go_wp2_with (first | (go_at_call 82; refine (HN.out _ HB0.out).mono ?_; rintro e wx1 ⟨rfl, hbx⟩; have HLX1 := Lib.hid (HL0.out.quiet hbx); have HBX1 := Lib.hid (HB0.out.trans (hbx.mono HB0.out.size)); clear hbx d0 d1 dz; obtain ⟨d0, d1⟩ := HLX1.out.box.cell; have dz := HLX1.out.box.lt) | (go_at_call 83; refine (HM.out _ HBX1.out).mono ?_; rintro e wx2 ⟨rfl, hbx⟩; have HLX2 := Lib.hid (HLX1.out.quiet hbx); have HBX2 := Lib.hid (HBX1.out.trans (hbx.mono HBX1.out.size)); clear hbx d0 d1 dz; obtain ⟨d0, d1⟩ := HLX2.out.box.cell; have dz := HLX2.out.box.lt) | fail)
        go_meet
        exact ⟨false, rfl, by simp, HBX2, HLX2⟩
      | true =>
        have HT' := Lib.hid (HT.out rfl)
        go_wp2_with (first | (go_at_call 82; refine (HN.out _ HB0.out).mono ?_; rintro e wx1 ⟨rfl, hbx⟩; have HLX1 := Lib.hid (HL0.out.quiet hbx); have HBX1 := Lib.hid (HB0.out.trans (hbx.mono HB0.out.size)); clear hbx d0 d1 dz; obtain ⟨d0, d1⟩ := HLX1.out.box.cell; have dz := HLX1.out.box.lt) | (go_at_call 83; refine (HM.out _ HBX1.out).mono ?_; rintro e wx2 ⟨rfl, hbx⟩; have HLX2 := Lib.hid (HLX1.out.quiet hbx); have HBX2 := Lib.hid (HBX1.out.trans (hbx.mono HBX1.out.size)); clear hbx d0 d1 dz; obtain ⟨d0, d1⟩ := HLX2.out.box.cell; have dz := HLX2.out.box.lt) | (go_at_call 84; refine (HT'.out _ HBX2.out).mono ?_; rintro e wx3 ⟨rfl, hbx⟩; have HLX3 := Lib.hid (HLX2.out.quiet hbx); have HBX3 := Lib.hid (HBX2.out.trans (hbx.mono HBX2.out.size)); clear hbx d0 d1 dz; obtain ⟨d0, d1⟩ := HLX3.out.box.cell; have dz := HLX3.out.box.lt) | fail)
        go_meet
        exact ⟨b3, rfl, by simp, HBX3, HLX3⟩
  case rest =>
    obtain ⟨cb, rfl, hcb, HB1, HL1⟩ := hcut
    obtain ⟨w1, hw1⟩ : ∃ w1, w1 = wc := ⟨_, rfl⟩
    subst hw1
    clear HL0 HB0 HN HM HT
    go_upto_if 22 with (fail)
    go_cut [9] (fun v wx => ∃ (k q cc : Nat) (l : List Int), v = .slice (some ⟨q, 0, none⟩) k cc ∧ k ≤ 12 ∧ l.length = k ∧ Hid (LI w wx B g a n cap K N (.slice A ps.length c) (.slice (some ⟨q, 0, none⟩) l.length cc) l))
    case first =>
      cases cb with
      | false =>
        go_wp2_with fail
        go_meet
        exact ⟨0, w.heap.size + 1, 0, [], rfl, by omega, rfl, HL1⟩
      | true =>
        obtain ⟨rfl, rfl⟩ := hcb rfl
        have HF' := Lib.hid (HF.out rfl rfl)
        obtain ⟨d0, d1⟩ := HL1.out.box.cell
        have dz := HL1.out.box.lt
        have hz1 := (World.ownsRow.lt HL1.out.own (w.heap.size + 1) rfl).2
        go_wp2_with (first | (go_at_call 85; refine (HF'.out _ HB1.out).mono ?_; rintro e w2 ⟨q2, cc2, rfl, hq2, ho2, hb2⟩; have HL2 := Lib.hid ((HL1.out.quiet hb2).row (own_lower ho2 (by omega))); clear ho2 hb2 d0 d1 dz) | fail)
        go_meet
        exact ⟨ps.length, q2, cc2, F, rfl, hpl, hFl, HL2⟩
    case rest =>
      obtain ⟨k0, q0, cc0, l0, rfl, hk0, hlk0, HL2⟩ := hcut
      obtain ⟨w2, hw2⟩ : ∃ w2, w2 = wc := ⟨_, rfl⟩
      subst hw2
      clear HL1 HB1 HF hcb hFl
      refine Hid.out ?_
      refine Lib.hid ?_
      go_wp2_with fail
      go_loopw [9] (fun v wr => ∃ (k q cc : Nat) (l : List Int), v = .slice (some ⟨q, 0, none⟩) k cc ∧ k ≤ 12 ∧ l.length = k ∧ Hid (LI w wr B g a n cap (K + 2 * k) N (.slice A ps.length c) (.slice (some ⟨q, 0, none⟩) l.length cc) l)) (fun v _ => 12 - slN v)
      case atStart => exact ⟨k0, q0, cc0, l0, rfl, hk0, hlk0, Lib.hid (HL2.out.more (by omega))⟩
      case round =>
        clear HL2 hlk0 hk0
        obtain ⟨k, q, cc, l, rfl, hk12, hlk, HL⟩ := hrel
        obtain ⟨wo, hwo⟩ : ∃ wo, wo = wr := ⟨_, rfl⟩
        subst hwo
        obtain ⟨c0, c1⟩ := HL.out.box.cell
        have hbz := HL.out.box.lt
        have HLK := Lib.hid hlk
        clear hlk
        by_cases hlt : (k : Int) < (ps.length : Int)
        · have hle : decide ((k : Int) < (ps.length : Int)) = true := decide_eq_true hlt
          have hk11 : k ≤ 11 := by omega
          have hle2 : decide (k < ps.length) = true := decide_eq_true (by omega)
          clear hlt
          refine Hid.out ?_
          refine Lib.hid ?_
          go_wp2_with (first
            | (go_at_call 149; refine (S1.pick_any B g a n cap (K + 2 * k) 40 _ (by omega) (by omega) (by omega) HL.out.st).mono ?_; rintro e w5 ⟨r, rfl, hr0, hr1, hs, hg⟩; refine Hid.out ?_)
            | fail)
          have HL5 := Lib.hid (HL.out.call hs hg)
          have ho := HL5.out.own
          rw [HLK.out] at ho
          have hgz := HL5.out.gr.size
          have hr20 : IntKind.i64.wrap (r - 20) = r - 20 := IntWalk.i64_in _ (by omega)
          clear hs hg c0 c1
          obtain ⟨z, hz⟩ : ∃ z, r - 20 = z := ⟨_, rfl⟩
          rw [hz] at hr20
          refine Lib.hid ?_
          go_wp2_with (first
            | (at_builtin; go_must (refine wpList_append_own _ rfl _ _ 27 rfl (w.heap.size + 1) 3 i0 (.int .i64 0) 1 8 Try.underlying27 hi hz0 hz1 hz2 rfl (by decide) _ _ _ rfl (ho.alloc _) ⟨w5.heap.size, 0, none⟩ 1 1 [iv z] rfl rfl (cell_one_new _ _ _) (by intro u hu; simp at hu; subst hu; rfl) (by have := HLK.out; unfold maxLen; omega) (by have := HLK.out; omega) (by have := HLK.out; simp; omega) ?_); intro v' w7 hown' hgrow hnil)
            | fail)
          have hg7 : (w5.alloc (.cells #[iv z] 3)).grownBy w7 (some q) := hgrow
          obtain ⟨q2, cc2, hv2, -⟩ := World.ownsRow.form hown' (by omega)
          subst hv2
          have HL7 := Lib.hid ((HL5.out.alloc (.cells #[iv z] 3)).push hg7 hown')
          clear hown' hgrow hnil ho HL5 hg7
          refine ⟨⟨k + 1, q2, cc2, l ++ [z], by rw [HLK.out], by omega, by simp [HLK.out], Lib.hid ?_⟩, by simp [slN, HLK.out]; omega⟩
          have hx := HL7.out
          have hlen : (l ++ [z]).length = l.length + 1 := by simp
          rw [hlen]
          exact hx.more (by omega)
        · have hle : decide ((k : Int) < (ps.length : Int)) = false := decide_eq_false hlt
          have hle2 : decide (k < ps.length) = false := decide_eq_false (by omega)
          clear hlt
          refine Hid.out ?_
          refine Lib.hid ?_
          go_wp2_with fail
          case isTrue hk0 K0 aK0 =>
            go_wp2_with (first | (go_at_call 156; refine (S1.one_any B g a n cap (K + 2 * k) 4 _ (by omega) (by omega) (by omega) HL.out.st).mono ?_; rintro e w5 ⟨b5, rfl, hs, hg⟩; refine Hid.out ?_) | fail)
            have HL5 := Lib.hid (HL.out.call hs hg)
            clear hs hg
            cases b5 with
            | false =>
              refine Lib.hid ?_
              go_wp2_with (first | (go_at_call 156; refine (S1.one_any B g a n cap (K + 2 * k + 2) 24 _ (by omega) (by omega) (by omega) HL5.out.st).mono ?_; rintro e wt ⟨bt, rfl, hs, hg⟩; refine Hid.out ?_) | fail)
              have HLt := Lib.hid (HL5.out.call hs hg)
              clear hs hg
              cases bt with
              | false =>
                refine Lib.hid ?_
                go_wp2_with fail
                have hy := HLt.out.post HLK.out (m := 13) (K' := K + 100) (by omega) (by omega)
                go_ret
                exact hy
              | true =>
                have ho := HLt.out.own
                rw [HLK.out] at ho
                have hgz := HLt.out.gr.size
                refine Lib.hid ?_
                go_wp2_with (first
                  | (at_builtin; go_must (refine wpList_append_own _ rfl _ _ 27 rfl (w.heap.size + 1) 3 i0 (.int .i64 0) 1 8 Try.underlying27 hi hz0 hz1 hz2 rfl (by decide) _ _ _ rfl (ho.alloc _) ⟨wt.heap.size, 0, none⟩ 1 1 [iv 1] rfl rfl (cell_one_new _ _ _) (by intro u hu; simp at hu; subst hu; rfl) (by have := HLK.out; unfold maxLen; omega) (by have := HLK.out; omega) (by have := HLK.out; simp; omega) ?_); intro v' w9 hown' hgrow hnil)
                  | fail)
                have hg9 : (wt.alloc (.cells #[iv 1] 3)).grownBy w9 (some q) := hgrow
                obtain ⟨q2, cc2, hv2, -⟩ := World.ownsRow.form hown' (by omega)
                subst hv2
                have HL9 := Lib.hid ((HLt.out.alloc (.cells #[iv 1] 3)).push hg9 hown')
                clear hown' hgrow hnil ho HLt hg9
                have hlen : (l ++ [1]).length = l.length + 1 := by simp
                have hx := HL9.out
                rw [← hlen] at hx
                have hy := hx.post hlen (m := 13) (K' := K + 100) (by have := HLK.out; omega) (by omega)
                clear hx HL9
                go_wp2_with fail
                go_ret
                exact hy
            | true =>
              refine Lib.hid ?_
              go_wp2_with (first
                | (go_at_call 149; refine (S1.pick_any B g a n cap (K + 2 * k + 2) (k : Int) _ (by omega) (by omega) (by omega) HL5.out.st).mono ?_; rintro e w6 ⟨r, rfl, hr0, hr1, hs, hg⟩; refine Hid.out ?_)
                | fail)
              have HL6 := Lib.hid (HL5.out.call hs hg)
              clear hs hg
              refine Lib.hid ?_
              go_wp2_with (first
                | (go_at_call 150; refine (S1.among_any B g a n cap (K + 2 * k + 4) w6.heap.size 6 6 [0, 7, (-7), 8000, (-8000), 8001] _ rfl (by omega) (by simp) (by simp) (HL6.out.alloc (.cells #[.int .i64 0, .int .i64 7, .int .i64 (-7), .int .i64 8000, .int .i64 (-8000), .int .i64 8001] 3)).st (fun j hj => S1.ti_new w6 [0, 7, (-7), 8000, (-8000), 8001] 3 j hj) (by have := HL6.out.gr.size; omega)).mono ?_; rintro e w7 ⟨⟨z, rfl⟩, hs, hg⟩; refine Hid.out ?_)
                | fail)
              have HL7 := Lib.hid ((HL6.out.alloc (.cells #[.int .i64 0, .int .i64 7, .int .i64 (-7), .int .i64 8000, .int .i64 (-8000), .int .i64 8001] 3)).call hs hg)
              clear hs hg
              obtain ⟨rn, rfl⟩ : ∃ rn : Nat, r = (rn : Int) := ⟨r.toNat, by omega⟩
              have hrn : rn < l.length := by have := HLK.out; omega
              have ho := HL7.out.own
              unfold IOwn at ho
              have hfz := ho.frozenAt rn
              have hcz : w7.cell? ⟨q, rn, none⟩ = some (iv (l.getD rn 0)) := by rw [ho.cellAt rn (by omega)]; simp [List.getD, hrn]
              clear ho
              have HLW := Lib.hid (HL7.out.set rn z)
              have HLn := Lib.hid (show (l.set rn z).length = k by rw [List.length_set]; exact HLK.out)
              refine Lib.hid ?_
              go_wp2_with (first | (go_at_call 156; refine (S1.one_any B g a n cap (K + 2 * k + 6) 24 _ (by omega) (by omega) (by omega) HLW.out.st).mono ?_; rintro e wt ⟨bt, rfl, hs, hg⟩; refine Hid.out ?_) | fail)
              have HLt := Lib.hid (HLW.out.call hs hg)
              clear hs hg
              cases bt with
              | false =>
                refine Lib.hid ?_
                go_wp2_with fail
                have hy := HLt.out.post HLn.out (m := 13) (K' := K + 100) (by omega) (by omega)
                go_ret
                exact hy
              | true =>
                have ho := HLt.out.own
                rw [HLn.out] at ho
                have hgz := HLt.out.gr.size
                refine Lib.hid ?_
                go_wp2_with (first
                  | (at_builtin; go_must (refine wpList_append_own _ rfl _ _ 27 rfl (w.heap.size + 1) 3 i0 (.int .i64 0) 1 8 Try.underlying27 hi hz0 hz1 hz2 rfl (by decide) _ _ _ rfl (ho.alloc _) ⟨wt.heap.size, 0, none⟩ 1 1 [iv 1] rfl rfl (cell_one_new _ _ _) (by intro u hu; simp at hu; subst hu; rfl) (by have := HLn.out; unfold maxLen; omega) (by have := HLn.out; omega) (by have := HLn.out; simp; omega) ?_); intro v' w9 hown' hgrow hnil)
                  | fail)
                have hg9 : (wt.alloc (.cells #[iv 1] 3)).grownBy w9 (some q) := hgrow
                obtain ⟨q2, cc2, hv2, -⟩ := World.ownsRow.form hown' (by omega)
                subst hv2
                have HL9 := Lib.hid ((HLt.out.alloc (.cells #[iv 1] 3)).push hg9 hown')
                clear hown' hgrow hnil ho HLt hg9
                have hlen : ((l.set rn z) ++ [1]).length = (l.set rn z).length + 1 := by simp
                have hx := HL9.out
                rw [← hlen] at hx
                have hy := hx.post hlen (m := 13) (K' := K + 100) (by have := HLn.out; omega) (by omega)
                clear hx HL9
                go_wp2_with fail
                go_ret
                exact hy
          · skip
            refine Hid.out ?_
            refine Lib.hid ?_
            go_wp2_with (first | (go_at_call 156; refine (S1.one_any B g a n cap (K + 2 * k) 24 _ (by omega) (by omega) (by omega) HL.out.st).mono ?_; rintro e wt ⟨bt, rfl, hs, hg⟩; refine Hid.out ?_) | fail)
            have HLt := Lib.hid (HL.out.call hs hg)
            clear hs hg
            cases bt with
            | false =>
              refine Lib.hid ?_
              go_wp2_with fail
              have hy := HLt.out.post HLK.out (m := 13) (K' := K + 100) (by omega) (by omega)
              go_ret
              exact hy
            | true =>
              have ho := HLt.out.own
              rw [HLK.out] at ho
              have hgz := HLt.out.gr.size
              refine Lib.hid ?_
              go_wp2_with (first
                | (at_builtin; go_must (refine wpList_append_own _ rfl _ _ 27 rfl (w.heap.size + 1) 3 i0 (.int .i64 0) 1 8 Try.underlying27 hi hz0 hz1 hz2 rfl (by decide) _ _ _ rfl (ho.alloc _) ⟨wt.heap.size, 0, none⟩ 1 1 [iv 1] rfl rfl (cell_one_new _ _ _) (by intro u hu; simp at hu; subst hu; rfl) (by have := HLK.out; unfold maxLen; omega) (by have := HLK.out; omega) (by have := HLK.out; simp; omega) ?_); intro v' w9 hown' hgrow hnil)
                | fail)
              have hg9 : (wt.alloc (.cells #[iv 1] 3)).grownBy w9 (some q) := hgrow
              obtain ⟨q2, cc2, hv2, -⟩ := World.ownsRow.form hown' (by omega)
              subst hv2
              have HL9 := Lib.hid ((HLt.out.alloc (.cells #[iv 1] 3)).push hg9 hown')
              clear hown' hgrow hnil ho HLt hg9
              have hlen : (l ++ [1]).length = l.length + 1 := by simp
              have hx := HL9.out
              rw [← hlen] at hx
              have hy := hx.post hlen (m := 13) (K' := K + 100) (by have := HLK.out; omega) (by omega)
              clear hx HL9
              go_wp2_with fail
              go_ret
              exact hy
end Go.Proofs.Ytikppgbipdflbab.S2

namespace Go.Proofs.Ytikppgbipdflbab.S2
open Go.RowKit Go.Sort P2

/-- What DrawImbalanceAt draws. -/
def DImb (w : World) (w' : World) (N : Int) (A : Option Addr) (c : Nat) (ps : List Pp) (q1 c1 : Nat) (dm : List Int) (q2 c2 : Nat) (fl : List Int) : Prop :=
  TNet (w.heap.size + 1) w' N A c ps ∧ dm.length ≤ 10 ∧ IOwn w' (w.heap.size + 1) (.slice (some ⟨q1, 0, none⟩) dm.length c1) dm ∧ fl.length ≤ 13 ∧ IOwn w' (w.heap.size + 1) (.slice (some ⟨q2, 0, none⟩) fl.length c2) fl ∧ Below w.heap.size w w'
set_option maxHeartbeats 8000000 in
set_option maxRecDepth 100000 in
theorem dimb_any (a : Option Addr) (n cap : Nat) (w : World) (h : S1.Cd w.heap.size a n w) (hn : n ≤ 65536) :
    Calls Try.prog 91 #[.slice a n cap] w fun e w' => ∃ (N : Int) (A : Option Addr) (c : Nat) (ps : List Pp) (z : Int) (q1 c1 : Nat) (dm : List Int) (q2 c2 : Nat) (fl : List Int) (y : Int), e = .returned (.tuple #[nv N A ps.length c, .int .i64 z, .slice (some ⟨q1, 0, none⟩) dm.length c1, .slice (some ⟨q2, 0, none⟩) fl.length c2, .int .i64 y]) ∧ DImb w w' N A c ps q1 c1 dm q2 c2 fl := by
  have HST := Lib.hid (cur_start cap (nb 0 none 0 0) h hn)
  clear h
  go_enter Try.func91, Try.ntmps91
  refine Hid.out ?_
  refine Lib.hid ?_
  go_wp2_with (first | (go_at_call 75; refine (tree_draw (w.heap.size + 1) (w.heap.size + 1) a n cap 0 _ (by omega) HST.out (by simp)).mono ?_; rintro e w1 ⟨N, A, c, ps, rfl, hd, hs, hg⟩; refine Hid.out ?_) | fail)
  have hz1 : w.heap.size + 2 ≤ w1.heap.size := by have := hg.size; simp at this; omega
  have HI0 := Lib.hid (show DI w (w1.alloc (nb N A ps.length c)) a n cap 1000 w1.heap.size N A c ps from
    ⟨S1.st_new (hs.more (by omega)) _, (below2 hg (by omega)).trans ((alloc_below w1 _).mono (by omega)), (hd.low (by simp)).on (alloc_below _ _), TN.made w1 _ _, (((TN.made w (.int .i64 0) (.slice none 0 0)).below (alloc_below _ _)).grown hg (by omega)).below (alloc_below _ _), by omega⟩)
  clear hd hs hg HST
  refine Lib.hid ?_
  go_upto_region 3 with (fail)
  obtain ⟨wa, hwa⟩ : ∃ wa, w1.alloc (nb N A ps.length c) = wa := ⟨_, rfl⟩
  rw [hwa] at HI0 ⊢
  clear hwa
  have hN9 := HI0.out.net.n9
  have hp12 := HI0.out.net.len
  have hpc := HI0.out.net.cap
  have hT9 : w.heap.size + 1 < w1.heap.size := HI0.out.tw
  obtain ⟨b0, b1⟩ := HI0.out.box.cell
  have hy3 := HI0.out.box.lt
  refine wp_region_held_drew (S := fun w' => w'.cell? ⟨w1.heap.size, 0, none⟩ = some (.int .i64 N) ∧ w'.cell? ⟨w1.heap.size, 1, none⟩ = some (.slice A ps.length c)) (by kernel_rfl) (by exact ⟨b0, b1⟩) (fun hHeld => ?_)
  refine wpAnyH_take (i := 0) (v := .pointer (some ⟨w.heap.size + 1, 0, none⟩)) rfl (by kernel_rfl) (by kernel_rfl) (by kernel_rfl) (fun _ _ _ h => h) (Or.inl ⟨by kernel_rfl, ?_⟩) (by assumption) ?_
  · (intro w hSw; (try dsimp only at hSw); go_simp)
  simp only [Act.put, List.setIfInBounds_toArray]
  refine wpAnyH_take (i := 1) (v := .agg #[.int .i64 N, .slice A ps.length c]) rfl (by kernel_rfl) (by kernel_rfl) (by kernel_rfl) (fun _ _ _ h => h) (Or.inl ⟨by kernel_rfl, ?_⟩) (by assumption) ?_
  · (intro w hSw; (try dsimp only at hSw); go_simp)
  simp only [Act.put]
  refine wpAnyH_take (i := 3) (v := .pointer (some ⟨w.heap.size + 1, 0, none⟩)) rfl (by kernel_rfl) (by kernel_rfl) (by kernel_rfl) (fun _ _ _ h => h) (Or.inl ⟨by kernel_rfl, ?_⟩) (by assumption) ?_
  · (intro w hSw; (try dsimp only at hSw); go_simp)
  simp only [Act.put]
  refine wpAnyH_take (i := 4) (v := .agg #[.int .i64 N, .slice A ps.length c]) rfl (by kernel_rfl) (by kernel_rfl) (by kernel_rfl) (fun _ _ _ h => h) (Or.inl ⟨by kernel_rfl, ?_⟩) (by assumption) ?_
  · (intro w hSw; (try dsimp only at hSw); go_simp)
  simp only [Act.put]
  have HI0x := Lib.hid (HI0.out.quiet (Below.refl _ _).drew)
  clear HI0 b0 b1
  refine wpAnyH_ready (rs := [2]) (by kernel_rfl) (by simp) ?_
  refine AllReadyH.cons rfl (fun K hK => ?_) AllReadyH.nil
  go_simp
  go_at_call 76
  refine (node_draw (w.heap.size + 1) (w.heap.size + 1) a n cap 1000 N A ps.length c _ (by omega) (by omega) HI0x.out.st).mono ?_
  rintro e v1 ⟨⟨z, rfl⟩, hs, hg⟩
  have HI1 := Lib.hid (HI0x.out.call hs hg)
  clear hs hg
  obtain ⟨x1, y1⟩ := HI1.out.box.cell
  refine hK.out _ _ (by exact ⟨x1, y1⟩) (fun hHeld => ?_)
  clear hK K
  refine wpAnyH_ready (rs := [5]) (by kernel_rfl) (by simp) ?_
  refine AllReadyH.cons rfl (fun K hK => ?_) AllReadyH.nil
  go_simp
  go_at_call 77
  refine (demands_draw (w.heap.size + 1) (w.heap.size + 1) a n cap 1004 N A ps.length c _ (by omega) hN9 HI1.out.st (by have := HI1.out.box.lt; omega)).mono ?_
  rintro e v2 ⟨q1, c1, dm, rfl, hdm, ho, hs, hg⟩
  have HO1_2 := Lib.hid (own_low (B' := w.heap.size + 2) ho (by have := HI1.out.box.lt; omega))
  clear ho
  have HI2 := Lib.hid (HI1.out.call hs hg)
  clear hs hg
  obtain ⟨x2, y2⟩ := HI2.out.box.cell
  refine hK.out _ _ (by exact ⟨x2, y2⟩) (fun hHeld => ?_)
  clear hK K
  refine wpAnyH_ready (rs := [6]) (by kernel_rfl) (by simp) ?_
  refine AllReadyH.cons rfl (fun K hK => ?_) AllReadyH.nil
  go_simp
  refine hK.out _ _ (by first | assumption | exact ⟨x2, y2⟩) (fun hHeld => ?_)
  clear hK K
  refine wpAnyH_ready (rs := [7]) (by kernel_rfl) (by simp) ?_
  refine AllReadyH.cons rfl (fun K hK => ?_) AllReadyH.nil
  go_simp
  refine hK.out _ _ (by first | assumption | exact ⟨x2, y2⟩) (fun hHeld => ?_)
  clear hK K
  refine wpAnyH_done (by kernel_rfl) ?_ _
  clear hHeld x1 y1 x2 y2
  go_upto_region 4 with (fail)
  obtain ⟨b0, b1⟩ := HI2.out.box.cell
  have hy4 := HI2.out.box.lt
  refine wp_region_held_drew (S := fun w' => w'.cell? ⟨w1.heap.size, 0, none⟩ = some (.int .i64 N) ∧ w'.cell? ⟨w1.heap.size, 1, none⟩ = some (.slice A ps.length c)) (by kernel_rfl) (by exact ⟨b0, b1⟩) (fun hHeld => ?_)
  refine wpAnyH_take (i := 0) (v := .agg #[.int .i64 N, .slice A ps.length c]) rfl (by kernel_rfl) (by kernel_rfl) (by kernel_rfl) (fun _ _ _ h => h) (Or.inl ⟨by kernel_rfl, ?_⟩) (by assumption) ?_
  · (intro w hSw; (try dsimp only at hSw); go_simp)
  simp only [Act.put, List.setIfInBounds_toArray]
  refine wpAnyH_take (i := 1) (v := .int .i64 z) rfl (by kernel_rfl) (by kernel_rfl) (by kernel_rfl) (fun _ _ _ h => h) (Or.inl ⟨by kernel_rfl, ?_⟩) (by assumption) ?_
  · (intro w hSw; (try dsimp only at hSw); go_simp)
  simp only [Act.put]
  refine wpAnyH_take (i := 2) (v := .slice (some ⟨q1, 0, none⟩) dm.length c1) rfl (by kernel_rfl) (by kernel_rfl) (by kernel_rfl) (fun _ _ _ h => h) (Or.inl ⟨by kernel_rfl, ?_⟩) (by assumption) ?_
  · (intro w hSw; (try dsimp only at hSw); go_simp)
  simp only [Act.put]
  refine wpAnyH_take (i := 3) (v := .pointer (some ⟨w.heap.size + 1, 0, none⟩)) rfl (by kernel_rfl) (by kernel_rfl) (by kernel_rfl) (fun _ _ _ h => h) (Or.inl ⟨by kernel_rfl, ?_⟩) (by assumption) ?_
  · (intro w hSw; (try dsimp only at hSw); go_simp)
  simp only [Act.put]
  refine wpAnyH_take (i := 4) (v := .agg #[.int .i64 N, .slice A ps.length c]) rfl (by kernel_rfl) (by kernel_rfl) (by kernel_rfl) (fun _ _ _ h => h) (Or.inl ⟨by kernel_rfl, ?_⟩) (by assumption) ?_
  · (intro w hSw; (try dsimp only at hSw); go_simp)
  simp only [Act.put]
  refine wpAnyH_take (i := 5) (v := .int .i64 z) rfl (by kernel_rfl) (by kernel_rfl) (by kernel_rfl) (fun _ _ _ h => h) (Or.inl ⟨by kernel_rfl, ?_⟩) (by assumption) ?_
  · (intro w hSw; (try dsimp only at hSw); go_simp)
  simp only [Act.put]
  refine wpAnyH_take (i := 6) (v := .slice (some ⟨q1, 0, none⟩) dm.length c1) rfl (by kernel_rfl) (by kernel_rfl) (by kernel_rfl) (fun _ _ _ h => h) (Or.inl ⟨by kernel_rfl, ?_⟩) (by assumption) ?_
  · (intro w hSw; (try dsimp only at hSw); go_simp)
  simp only [Act.put]
  refine wpAnyH_take (i := 8) (v := .pointer (some ⟨w.heap.size + 1, 0, none⟩)) rfl (by kernel_rfl) (by kernel_rfl) (by kernel_rfl) (fun _ _ _ h => h) (Or.inl ⟨by kernel_rfl, ?_⟩) (by assumption) ?_
  · (intro w hSw; (try dsimp only at hSw); go_simp)
  simp only [Act.put]
  refine wpAnyH_take (i := 9) (v := .agg #[.int .i64 N, .slice A ps.length c]) rfl (by kernel_rfl) (by kernel_rfl) (by kernel_rfl) (fun _ _ _ h => h) (Or.inl ⟨by kernel_rfl, ?_⟩) (by assumption) ?_
  · (intro w hSw; (try dsimp only at hSw); go_simp)
  simp only [Act.put, List.getElem_toArray, List.getElem_cons_succ, List.getElem_cons_zero]
  have HI2x := Lib.hid (HI2.out.quiet (Below.refl _ _).drew)
  have HO1_HI2x := Lib.hid (IOwn.on HO1_2.out (Below.refl _ _).drew)
  clear HI2 b0 b1
  refine wpAnyH_ready (rs := [7]) (by kernel_rfl) (by simp) ?_
  refine AllReadyH.cons rfl (fun K hK => ?_) AllReadyH.nil
  go_simp
  go_at_call 168
  refine (flows_draw (w.heap.size + 1) (w.heap.size + 1) a n cap 1104 N A c ps z (some ⟨q1, 0, none⟩) c1 dm _ (by omega) hp12 hpc HI2x.out.net.pat HO1_HI2x.out.iat (by omega) HI2x.out.st (by have := HI2x.out.box.lt; omega)).mono ?_
  rintro e v3 ⟨q2, c2, fl, rfl, hfl, ho, hs, hg⟩
  have HO2_3 := Lib.hid (own_low (B' := w.heap.size + 2) ho (by have := HI2x.out.box.lt; omega))
  have HO1_3 := Lib.hid (own_call HO1_HI2x.out hg (by omega))
  clear ho
  have HI3 := Lib.hid (HI2x.out.call hs hg)
  clear hs hg
  obtain ⟨x3, y3⟩ := HI3.out.box.cell
  refine hK.out _ _ (by exact ⟨x3, y3⟩) (fun hHeld => ?_)
  clear hK K
  refine wpAnyH_ready (rs := [10]) (by kernel_rfl) (by simp) ?_
  refine AllReadyH.cons rfl (fun K hK => ?_) AllReadyH.nil
  go_simp
  go_at_call 76
  refine (node_draw (w.heap.size + 1) (w.heap.size + 1) a n cap 1204 N A ps.length c _ (by omega) (by omega) HI3.out.st).mono ?_
  rintro e v4 ⟨⟨y, rfl⟩, hs, hg⟩
  have HO1_4 := Lib.hid (own_call HO1_3.out hg (by omega))
  have HO2_4 := Lib.hid (own_call HO2_3.out hg (by omega))
  have HI4 := Lib.hid (HI3.out.call hs hg)
  clear hs hg
  obtain ⟨x4, y4⟩ := HI4.out.box.cell
  obtain ⟨s0, s1⟩ := HI4.out.res.cell
  have sf := HI4.out.res.frozen
  have sz := HI4.out.res.lt
  refine hK.out _ _ (by exact ⟨x4, y4⟩) (fun hHeld => ?_)
  clear hK K
  have hD := Lib.hid (HI4.out.done (.int .i64 N) (.slice A ps.length c))
  refine wpAnyH_ready (rs := [11]) (by kernel_rfl) (by simp) ?_
  refine AllReadyH.cons rfl (fun K hK => ?_) AllReadyH.nil
  go_simp
  refine hK.out _ _ (by first | assumption | go_keep | exact (((HI4.out.box.other (p := ⟨w.heap.size, 0, none⟩) (.int .i64 N) (by show w1.heap.size ≠ w.heap.size; omega)).other (p := ⟨w.heap.size, 1, none⟩) (.slice A ps.length c) (by show w1.heap.size ≠ w.heap.size; omega)).cell)) (fun hHeld => ?_)
  clear hK K
  refine wpAnyH_ready (rs := [12]) (by kernel_rfl) (by simp) ?_
  refine AllReadyH.cons rfl (fun K hK => ?_) AllReadyH.nil
  go_simp
  refine hK.out _ _ (by first | assumption | go_keep | exact (((HI4.out.box.other (p := ⟨w.heap.size, 0, none⟩) (.int .i64 N) (by show w1.heap.size ≠ w.heap.size; omega)).other (p := ⟨w.heap.size, 1, none⟩) (.slice A ps.length c) (by show w1.heap.size ≠ w.heap.size; omega)).cell)) (fun hHeld => ?_)
  clear hK K
  refine wpAnyH_ready (rs := [13]) (by kernel_rfl) (by simp) ?_
  refine AllReadyH.cons rfl (fun K hK => ?_) AllReadyH.nil
  go_simp
  refine hK.out _ _ (by first | assumption | go_keep | exact (((HI4.out.box.other (p := ⟨w.heap.size, 0, none⟩) (.int .i64 N) (by show w1.heap.size ≠ w.heap.size; omega)).other (p := ⟨w.heap.size, 1, none⟩) (.slice A ps.length c) (by show w1.heap.size ≠ w.heap.size; omega)).cell)) (fun hHeld => ?_)
  clear hK K
  refine wpAnyH_ready (rs := [14]) (by kernel_rfl) (by simp) ?_
  refine AllReadyH.cons rfl (fun K hK => ?_) AllReadyH.nil
  go_simp
  refine hK.out _ _ (by first | assumption | go_keep | exact (((HI4.out.box.other (p := ⟨w.heap.size, 0, none⟩) (.int .i64 N) (by show w1.heap.size ≠ w.heap.size; omega)).other (p := ⟨w.heap.size, 1, none⟩) (.slice A ps.length c) (by show w1.heap.size ≠ w.heap.size; omega)).cell)) (fun hHeld => ?_)
  clear hK K
  refine wpAnyH_ready (rs := [15]) (by kernel_rfl) (by simp) ?_
  refine AllReadyH.cons rfl (fun K hK => ?_) AllReadyH.nil
  go_simp
  refine hK.out _ _ (by first | assumption | go_keep | exact (((HI4.out.box.other (p := ⟨w.heap.size, 0, none⟩) (.int .i64 N) (by show w1.heap.size ≠ w.heap.size; omega)).other (p := ⟨w.heap.size, 1, none⟩) (.slice A ps.length c) (by show w1.heap.size ≠ w.heap.size; omega)).cell)) (fun hHeld => ?_)
  clear hK K
  refine wpAnyH_done (by kernel_rfl) ?_ _
  clear hHeld
  go_wp2_with fail
  refine bodyPost_ret (v := .tuple #[nv N A ps.length c, .int .i64 z, .slice (some ⟨q1, 0, none⟩) dm.length c1, .slice (some ⟨q2, 0, none⟩) fl.length c2, .int .i64 y]) (by simp [results, Try.results91, go_sem, s0, s1]) rfl ⟨N, A, c, ps, z, q1, c1, dm, q2, c2, fl, y, rfl, hD.out.1, hdm, own_two (own_low HO1_4.out (by omega)), hfl, own_two (own_low HO2_4.out (by omega)), hD.out.2⟩
theorem DImb.on {w w1 w2 : World} {N : Int} {A : Option Addr} {c : Nat} {ps : List Pp} {q1 c1 : Nat} {dm : List Int} {q2 c2 : Nat} {fl : List Int} (h : DImb w w1 N A c ps q1 c1 dm q2 c2 fl) (hb : Below w1.heap.size w1 w2) : DImb w w2 N A c ps q1 c1 dm q2 c2 fl :=
  ⟨h.1.on hb, h.2.1, h.2.2.1.on hb, h.2.2.2.1, h.2.2.2.2.1.on hb, h.2.2.2.2.2.trans (hb.mono h.2.2.2.2.2.size)⟩
theorem DImb.fin {w w2 : World} {o : Obj} {N : Int} {A : Option Addr} {c : Nat} {ps : List Pp} {q1 c1 : Nat} {dm : List Int} {q2 c2 : Nat} {fl : List Int} (h : DImb (w.alloc o) w2 N A c ps q1 c1 dm q2 c2 fl) (x y : Value) : DImb w ((w2.setCell ⟨w.heap.size, 0, none⟩ x).setCell ⟨w.heap.size, 1, none⟩ y) N A c ps q1 c1 dm q2 c2 fl := by
  obtain ⟨h1, h2, h3, h4, h5, h6⟩ := h
  have hz : (w.alloc o).heap.size = w.heap.size + 1 := by simp
  rw [hz] at h1 h3 h5
  have hB : Below w.heap.size w w2 := (alloc_below w o).trans (h6.mono (by omega))
  exact ⟨((h1.low (by omega)).set _ _ _ (by omega)).set _ _ _ (by omega), h2, own_two (own_low h3 (by omega)), h4, own_two (own_low h5 (by omega)), (hB.setCell (p := ⟨w.heap.size, 0, none⟩) (Nat.le_refl _) x).setCell (p := ⟨w.heap.size, 1, none⟩) (Nat.le_refl _) y⟩
theorem TN.both {w : World} {T : Nat} {x v : Value} (h : TN w T x v) (x2 v2 : Value) : TN ((w.setCell ⟨T, 0, none⟩ x2).setCell ⟨T, 1, none⟩ v2) T x2 v2 := by
  unfold TN at h ⊢
  simp [World.setCell, Array.getElem?_modify, h]
set_option maxHeartbeats 4000000 in
set_option maxRecDepth 100000 in
theorem dbal_any (a : Option Addr) (n cap : Nat) (w : World) (h : S1.Cd w.heap.size a n w) (hn : n ≤ 65536) :
    Calls Try.prog 19 #[.slice a n cap] w fun e w' => ∃ (N : Int) (A : Option Addr) (c : Nat) (ps : List Pp) (z : Int) (q1 c1 : Nat) (dm : List Int) (q2 c2 : Nat) (fl : List Int), e = .returned (.tuple #[nv N A ps.length c, .int .i64 z, .slice (some ⟨q1, 0, none⟩) dm.length c1, .slice (some ⟨q2, 0, none⟩) fl.length c2]) ∧ DImb w w' N A c ps q1 c1 dm q2 c2 fl := by
  have HC := Lib.hid (h.later (alloc_below w (nb 0 none 0 0)) (Nat.le_refl _))
  clear h
  go_enter Try.func19, Try.ntmps19
  refine Hid.out ?_
  refine Lib.hid ?_
  go_wp2_with (first | (go_at_call 91; refine (dimb_any a n cap _ HC.out hn).mono ?_; rintro e w1 ⟨N, A, c, ps, z, q1, c1, dm, q2, c2, fl, y, rfl, hd⟩; refine Hid.out ?_) | fail)
  have HT := ((TN.made w (.int .i64 0) (.slice none 0 0)).below hd.2.2.2.2.2)
  have hRz := HT.lt
  have hD := Lib.hid ((hd.fin (.int .i64 N) (.slice A ps.length c)).on (alloc_below _ (nb N A ps.length c)))
  obtain ⟨r0, r1⟩ := HT.cell
  have hRf := HT.frozen
  obtain ⟨s0, s1⟩ := ((HT.both (.int .i64 N) (.slice A ps.length c)).below (alloc_below _ (nb N A ps.length c))).cell
  clear hd
  refine Lib.hid ?_
  go_wp2_with fail
  refine bodyPost_ret (v := .tuple #[nv N A ps.length c, .int .i64 z, .slice (some ⟨q1, 0, none⟩) dm.length c1, .slice (some ⟨q2, 0, none⟩) fl.length c2]) (by simp [results, Try.results19, go_sem, s0, s1]) rfl ⟨N, A, c, ps, z, q1, c1, dm, q2, c2, fl, rfl, hD.out⟩
set_option maxHeartbeats 4000000 in
set_option maxRecDepth 100000 in
theorem dheavy_any (a : Option Addr) (n cap : Nat) (w : World) (h : S1.Cd w.heap.size a n w) (hn : n ≤ 65536) :
    Calls Try.prog 50 #[.slice a n cap] w fun e w' => ∃ (N : Int) (A : Option Addr) (c : Nat) (ps : List Pp) (q1 c1 : Nat) (dm : List Int) (q2 c2 : Nat) (fl : List Int), e = .returned (.tuple #[nv N A ps.length c, .slice (some ⟨q2, 0, none⟩) fl.length c2]) ∧ DImb w w' N A c ps q1 c1 dm q2 c2 fl := by
  have HC := Lib.hid (h.later (alloc_below w (nb 0 none 0 0)) (Nat.le_refl _))
  clear h
  go_enter Try.func50, Try.ntmps50
  refine Hid.out ?_
  refine Lib.hid ?_
  go_wp2_with (first | (go_at_call 19; refine (dbal_any a n cap _ HC.out hn).mono ?_; rintro e w1 ⟨N, A, c, ps, z, q1, c1, dm, q2, c2, fl, rfl, hd⟩; refine Hid.out ?_) | fail)
  have HT := ((TN.made w (.int .i64 0) (.slice none 0 0)).below hd.2.2.2.2.2)
  have hRz := HT.lt
  have hD := Lib.hid ((hd.fin (.int .i64 N) (.slice A ps.length c)).on (alloc_below _ (nb N A ps.length c)))
  obtain ⟨r0, r1⟩ := HT.cell
  have hRf := HT.frozen
  obtain ⟨s0, s1⟩ := ((HT.both (.int .i64 N) (.slice A ps.length c)).below (alloc_below _ (nb N A ps.length c))).cell
  clear hd
  refine Lib.hid ?_
  go_wp2_with fail
  refine bodyPost_ret (v := .tuple #[nv N A ps.length c, .slice (some ⟨q2, 0, none⟩) fl.length c2]) (by simp [results, Try.results50, go_sem, s0, s1]) rfl ⟨N, A, c, ps, q1, c1, dm, q2, c2, fl, rfl, hD.out⟩
set_option maxHeartbeats 4000000 in
set_option maxRecDepth 100000 in
theorem denergy_any (a : Option Addr) (n cap : Nat) (w : World) (h : S1.Cd w.heap.size a n w) (hn : n ≤ 65536) :
    Calls Try.prog 35 #[.slice a n cap] w fun e w' => ∃ (N : Int) (A : Option Addr) (c : Nat) (ps : List Pp) (q1 c1 : Nat) (dm : List Int) (q2 c2 : Nat) (fl : List Int), e = .returned (.tuple #[nv N A ps.length c, .slice (some ⟨q2, 0, none⟩) fl.length c2]) ∧ DImb w w' N A c ps q1 c1 dm q2 c2 fl := by
  have HC := Lib.hid (h.later (alloc_below w (nb 0 none 0 0)) (Nat.le_refl _))
  clear h
  go_enter Try.func35, Try.ntmps35
  refine Hid.out ?_
  refine Lib.hid ?_
  go_wp2_with (first | (go_at_call 50; refine (dheavy_any a n cap _ HC.out hn).mono ?_; rintro e w1 ⟨N, A, c, ps, q1, c1, dm, q2, c2, fl, rfl, hd⟩; refine Hid.out ?_) | fail)
  have HT := ((TN.made w (.int .i64 0) (.slice none 0 0)).below hd.2.2.2.2.2)
  have hRz := HT.lt
  have hD := Lib.hid (hd.fin (.int .i64 N) (.slice A ps.length c))
  obtain ⟨r0, r1⟩ := HT.cell
  have hRf := HT.frozen
  clear hd
  refine Lib.hid ?_
  go_wp2_with fail
  refine bodyPost_ret (v := .tuple #[nv N A ps.length c, .slice (some ⟨q2, 0, none⟩) fl.length c2]) (by simp [results, Try.results35, go_sem, r0, r1]) rfl ⟨N, A, c, ps, q1, c1, dm, q2, c2, fl, rfl, hD.out⟩
end Go.Proofs.Ytikppgbipdflbab.S2

namespace Go.Proofs.Ytikppgbipdflbab.S2
open Go.RowKit Go.Sort P2

/-- A drawn network that is only read: its row is no block g. -/
structure RNet (g : Nat) (w : World) (N : Int) (A : Option Addr) (c : Nat) (ps : List Pp) : Prop where
  n0 : 0 ≤ N
  n9 : N ≤ 9
  len : ps.length ≤ 12
  cap : ps.length ≤ c
  pat : PAt w A ps
  ne : ps = [] ∨ ∀ b off, A = some ⟨b, off, none⟩ → b ≠ g
theorem RNet.on {g : Nat} {w w' : World} {N : Int} {A : Option Addr} {c : Nat} {ps : List Pp} (h : RNet g w N A c ps) (hb : Below w.heap.size w w') : RNet g w' N A c ps := ⟨h.n0, h.n9, h.len, h.cap, h.pat.kept hb (Nat.le_refl _), h.ne⟩
theorem RNet.call {g : Nat} {w w' : World} {N : Int} {A : Option Addr} {c : Nat} {ps : List Pp} (h : RNet g w N A c ps) (hg : w.grownBy w' (some g)) : RNet g w' N A c ps := by
  refine ⟨h.n0, h.n9, h.len, h.cap, ?_, h.ne⟩
  rcases h.pat with h0 | ⟨b, off, hA, hlt, hc⟩
  · exact .inl h0
  · rcases h.ne with h0 | hf
    · exact .inl h0
    have hf := hf b off hA
    have hk : ∀ o, w'.cell? ⟨b, o, none⟩ = w.cell? ⟨b, o, none⟩ := fun o => hg.cell_far ⟨b, o, none⟩ hlt (by simp; omega)
    refine .inr ⟨b, off, hA, Nat.lt_of_lt_of_le hlt hg.size, fun i hi => ?_⟩
    obtain ⟨h0, h1, h2, h3⟩ := hc i hi
    exact ⟨(hk _).trans h0, (hk _).trans h1, (hk _).trans h2, (hk _).trans h3⟩
/-- The row is older than g. -/
theorem TNet.old {B g : Nat} {w : World} {N : Int} {A : Option Addr} {c : Nat} {ps : List Pp} (h : TNet B w N A c ps) (hg : w.heap.size ≤ g) : RNet g w N A c ps := by
  refine ⟨h.n0, h.n9, h.len, h.cap, h.pat, ?_⟩
  rcases h.pat with hz | ⟨b, off, hA, hlt, hc⟩
  · exact .inl hz
  · refine .inr (fun b2 off2 e => ?_)
    rw [hA] at e
    simp at e
    omega
set_option maxHeartbeats 2000000 in
set_option maxRecDepth 100000 in
theorem pipe_drawT (B g : Nat) (a : Option Addr) (n cap K : Nat) (N : Int) (A : Option Addr) (ps : List Pp) (c : Nat) (w : World) (hK : K ≤ 800000) (hD : RNet g w N A c ps) (h : S1.St B g a n cap K w) :
    Calls Try.prog 125 #[.pointer (some ⟨g, 0, none⟩), nv N A ps.length c] w fun e w' => (∃ z : Int, e = .returned (.int .i64 z)) ∧ S1.St B g a n cap (K + 4) w' ∧ w.grownBy w' (some g) := by
  have HS := Lib.hid (S1.st_new h (nb N A ps.length c))
  have HG := Lib.hid (show w.grownBy (w.alloc (nb N A ps.length c)) (some g) from World.grownBy_alloc w _ (some g))
  have HT := Lib.hid (TN.made w (.int .i64 N) (.slice A ps.length c))
  have HD := Lib.hid (hD.on (alloc_below w (nb N A ps.length c)))
  have hlt := st_lt h
  have hps := hD.len
  clear h hD
  by_cases hz : ps.length = 0
  · rw [hz] at HS HG HT ⊢
    clear HD hps hz HT
    go_enter Try.func125, Try.ntmps125
    refine Hid.out ?_
    refine Lib.hid ?_
    go_wp2_with (first | (go_at_call 149; refine (S1.pick_any B g a n cap K 20 _ (by omega) (by omega) (by omega) HS.out).mono ?_; rintro e w9 ⟨r, rfl, hr0, hr9, hs9, hg9⟩; refine Hid.out ?_) | fail)
    refine Lib.hid ?_
    go_wp2_with fail
    go_ret
    exact ⟨⟨_, rfl⟩, hs9.more (by omega), S1.grown_trans HG.out hg9⟩
  · have d0 : decide (ps.length = 0) = false := decide_eq_false hz
    obtain ⟨c0, c1⟩ := HT.out.cell
    have hHt := HT.out.lt
    go_enter Try.func125, Try.ntmps125
    refine Hid.out ?_
    refine Lib.hid ?_
    go_wp2_with (first | (go_at_call 156; refine (S1.one_any B g a n cap K 10 _ (by omega) (by omega) (by omega) HS.out).mono ?_; rintro e w1 ⟨b1, rfl, hs, hg⟩; refine Hid.out ?_) | fail)
    have HS1 := Lib.hid hs
    have HG1 := Lib.hid (S1.grown_trans HG.out hg)
    have HT1 := Lib.hid (HT.out.grown hg (by omega))
    have HD1 := Lib.hid (HD.out.call hg)
    obtain ⟨e0, e1⟩ := HT1.out.cell
    have hTz := HT1.out.lt
    clear hs hg c0 c1
    cases b1 with
    | true =>
      refine Lib.hid ?_
      go_wp2_with (first | (go_at_call 149; refine (S1.pick_any B g a n cap (K + 2) 20 _ (by omega) (by omega) (by omega) HS1.out).mono ?_; rintro e w9 ⟨r, rfl, hr0, hr9, hs9, hg9⟩; refine Hid.out ?_) | fail)
      refine Lib.hid ?_
      go_wp2_with fail
      go_ret
      exact ⟨⟨_, rfl⟩, hs9, S1.grown_trans HG1.out hg9⟩
    | false =>
      refine Lib.hid ?_
      go_wp2_with fail
      have hdr : w1.grownBy w1.drew (some g) := by have h := World.grownBy.refl w1 (some g); exact ⟨h.os, h.tape, h.output, h.size, h.block⟩
      have HSd := Lib.hid (show S1.St B g a n cap (K + 2) w1.drew from HS1.out.other ((Below.refl _ _).drew))
      have HGd := Lib.hid (show w.grownBy w1.drew (some g) from S1.grown_trans HG1.out hdr)
      have HTd := Lib.hid (show TN w1.drew w.heap.size (.int .i64 N) (.slice A ps.length c) from HT1.out.grown hdr (by omega))
      have HDd := Lib.hid (show RNet g w1.drew N A c ps from HD1.out.call hdr)
      go_region_with (first
        | (go_at_call 149; refine (S1.pick_any B g a n cap (K + 2) (ps.length : Int) _ (by omega) (by omega) (by omega) HSd.out).mono ?_; rintro e w9 ⟨r, rfl, hr0, hr9, hs9, hg9⟩; obtain ⟨rn, rfl⟩ : ∃ rn : Nat, r = (rn : Int) := ⟨r.toNat, by omega⟩; obtain ⟨b, off, hA, hbl, hc⟩ : ∃ b off, A = some ⟨b, off, none⟩ ∧ b < w9.heap.size ∧ w9.cell? ⟨b, off + rn * 4, none⟩ = some (.int .i64 (pAt ps rn).id) := pip_cell (HDd.out.call hg9).pat (by omega); obtain ⟨f0, f1⟩ := (HTd.out.grown hg9 (by omega)).cell; have HS9 := Lib.hid hs9; have HG9 := Lib.hid (S1.grown_trans HGd.out hg9); subst hA; clear hs9 hg9)
        | fail)
      all_goals
        go_wp2
        go_ret
        exact ⟨⟨_, rfl⟩, HS9.out, HG9.out⟩
end Go.Proofs.Ytikppgbipdflbab.S2

namespace Go.Proofs.Ytikppgbipdflbab.S2
open Go.RowKit Go.Sort P2

/-- A draw under way whose network is older than its cursor: w1 is the world behind the first draw. -/
structure EI (w w1 wr : World) (a : Option Addr) (n cap K : Nat) (N : Int) (A : Option Addr) (c : Nat) (ps : List Pp) : Prop where
  st : S1.St (w1.heap.size + 1) (w1.heap.size + 1) a n cap K wr
  bel : Below w1.heap.size w1 wr
  net : RNet (w1.heap.size + 1) wr N A c ps
  box : TN wr w1.heap.size (.int .i64 N) (.slice A ps.length c)
  res : TN wr w.heap.size (.int .i64 0) (.slice none 0 0)
  lt : w.heap.size < w1.heap.size
theorem EI.quiet {w w1 wr w2 : World} {a : Option Addr} {n cap K : Nat} {N : Int} {A : Option Addr} {c : Nat} {ps : List Pp} (h : EI w w1 wr a n cap K N A c ps) (hb : Below wr.heap.size wr w2) : EI w w1 w2 a n cap K N A c ps :=
  ⟨h.st.other hb, h.bel.trans (hb.mono h.bel.size), h.net.on hb, h.box.below hb, h.res.below hb, h.lt⟩
theorem EI.call {w w1 wr w2 : World} {a : Option Addr} {n cap K K' : Nat} {N : Int} {A : Option Addr} {c : Nat} {ps : List Pp} (h : EI w w1 wr a n cap K N A c ps) (hs : S1.St (w1.heap.size + 1) (w1.heap.size + 1) a n cap K' w2) (hg : wr.grownBy w2 (some (w1.heap.size + 1))) : EI w w1 w2 a n cap K' N A c ps :=
  ⟨hs, h.bel.trans (S1.grown_below hg (by omega) h.bel.size), h.net.call hg, h.box.grown hg (by omega), h.res.grown hg (by have := h.lt; omega), h.lt⟩
set_option maxHeartbeats 4000000 in
set_option maxRecDepth 100000 in
theorem drev_any (a : Option Addr) (n cap : Nat) (w : World) (h : S1.Cd w.heap.size a n w) (hn : n ≤ 65536) :
    Calls Try.prog 43 #[.slice a n cap] w fun e w' => ∃ (N : Int) (A : Option Addr) (c : Nat) (ps : List Pp) (q1 c1 : Nat) (dm : List Int) (q2 c2 : Nat) (fl : List Int) (z0 : Int), e = .returned (.tuple #[nv N A ps.length c, .slice (some ⟨q2, 0, none⟩) fl.length c2, .int .i64 z0]) ∧ DImb w w' N A c ps q1 c1 dm q2 c2 fl := by
  have HC := Lib.hid (h.later (alloc_below w (nb 0 none 0 0)) (Nat.le_refl _))
  clear h
  go_enter Try.func43, Try.ntmps43
  refine Hid.out ?_
  refine Lib.hid ?_
  go_wp2_with (first | (go_at_call 50; refine (dheavy_any a n cap _ HC.out hn).mono ?_; rintro e w1 ⟨N, A, c, ps, q1, c1, dm, q2, c2, fl, rfl, hd⟩; refine Hid.out ?_) | fail)
  have HT := ((TN.made w (.int .i64 0) (.slice none 0 0)).below hd.2.2.2.2.2)
  have hRz := HT.lt
  have HS0 := S1.st_start cap ((HC.out.later hd.2.2.2.2.2 (Nat.le_refl _)).later (alloc_below w1 (nb N A ps.length c)) (Nat.le_refl _)) hn
  rw [size_alloc] at HS0
  have hb2 : Below (w1.alloc (nb N A ps.length c)).heap.size (w1.alloc (nb N A ps.length c)) ((w1.alloc (nb N A ps.length c)).alloc (.cells #[.slice a n cap, .int .i64 0, .int .u64 0] 87)) := alloc_below _ _
  have hb1 : Below w1.heap.size w1 ((w1.alloc (nb N A ps.length c)).alloc (.cells #[.slice a n cap, .int .i64 0, .int .u64 0] 87)) := (alloc_below w1 (nb N A ps.length c)).trans (hb2.mono (by simp))
  have HI0 := Lib.hid (show EI w w1 ((w1.alloc (nb N A ps.length c)).alloc (.cells #[.slice a n cap, .int .i64 0, .int .u64 0] 87)) a n cap 0 N A c ps from
    ⟨HS0, hb1, ((hd.1.old (g := w1.heap.size + 1) (by omega)).on hb1), (TN.made w1 _ _).below hb2, HT.below hb1, hRz⟩)
  have HD := Lib.hid hd
  clear hd HS0 hb1 hb2 HC HT
  refine Lib.hid ?_
  go_upto_region 3 with (fail)
  obtain ⟨wa, hwa⟩ : ∃ wa, (w1.alloc (nb N A ps.length c)).alloc (.cells #[.slice a n cap, .int .i64 0, .int .u64 0] 87) = wa := ⟨_, rfl⟩
  rw [hwa] at HI0 ⊢
  clear hwa
  have hN9 := HI0.out.net.n9
  obtain ⟨b0, b1⟩ := HI0.out.box.cell
  have hy0 := HI0.out.box.lt
  refine wp_region_held_drew (S := fun w' => w'.cell? ⟨w1.heap.size, 0, none⟩ = some (.int .i64 N) ∧ w'.cell? ⟨w1.heap.size, 1, none⟩ = some (.slice A ps.length c)) (by kernel_rfl) (by exact ⟨b0, b1⟩) (fun hHeld => ?_)
  refine wpAnyH_take (i := 0) (v := .agg #[.int .i64 N, .slice A ps.length c]) rfl (by kernel_rfl) (by kernel_rfl) (by kernel_rfl) (fun _ _ _ h => h) (Or.inl ⟨by kernel_rfl, ?_⟩) (by assumption) ?_
  · (intro w hSw; (try dsimp only at hSw); go_simp)
  simp only [Act.put, List.setIfInBounds_toArray]
  refine wpAnyH_take (i := 1) (v := .slice (some ⟨q2, 0, none⟩) fl.length c2) rfl (by kernel_rfl) (by kernel_rfl) (by kernel_rfl) (fun _ _ _ h => h) (Or.inl ⟨by kernel_rfl, ?_⟩) (by assumption) ?_
  · (intro w hSw; (try dsimp only at hSw); go_simp)
  simp only [Act.put]
  refine wpAnyH_take (i := 2) (v := .pointer (some ⟨w1.heap.size + 1, 0, none⟩)) rfl (by kernel_rfl) (by kernel_rfl) (by kernel_rfl) (fun _ _ _ h => h) (Or.inl ⟨by kernel_rfl, ?_⟩) (by assumption) ?_
  · (intro w hSw; (try dsimp only at hSw); go_simp)
  simp only [Act.put]
  refine wpAnyH_take (i := 3) (v := .agg #[.int .i64 N, .slice A ps.length c]) rfl (by kernel_rfl) (by kernel_rfl) (by kernel_rfl) (fun _ _ _ h => h) (Or.inl ⟨by kernel_rfl, ?_⟩) (by assumption) ?_
  · (intro w hSw; (try dsimp only at hSw); go_simp)
  simp only [Act.put]
  have HI0x := Lib.hid (HI0.out.quiet (Below.refl _ _).drew)
  clear HI0 b0 b1
  refine wpAnyH_ready (rs := [4]) (by kernel_rfl) (by simp) ?_
  refine AllReadyH.cons rfl (fun K hK => ?_) AllReadyH.nil
  go_simp
  go_at_call 125
  refine (pipe_drawT (w1.heap.size + 1) (w1.heap.size + 1) a n cap 0 N A ps c _ (by omega) HI0x.out.net HI0x.out.st).mono ?_
  rintro e v0 ⟨⟨z0, rfl⟩, hs, hg⟩
  have HI1 := Lib.hid (HI0x.out.call hs hg)
  clear hs hg
  obtain ⟨x0, y0⟩ := HI1.out.box.cell
  obtain ⟨s0, s1⟩ := HI1.out.res.cell
  have sf := HI1.out.res.frozen
  have sz := HI1.out.res.lt
  refine hK.out _ _ (by exact ⟨x0, y0⟩) (fun hHeld => ?_)
  clear hK K
  have hD := Lib.hid ((HD.out.on HI1.out.bel).fin (.int .i64 N) (.slice A ps.length c))
  refine wpAnyH_ready (rs := [5]) (by kernel_rfl) (by simp) ?_
  refine AllReadyH.cons rfl (fun K hK => ?_) AllReadyH.nil
  go_simp
  refine hK.out _ _ (by first | assumption | go_keep | exact (((HI1.out.box.other (p := ⟨w.heap.size, 0, none⟩) (.int .i64 N) (by show w1.heap.size ≠ w.heap.size; omega)).other (p := ⟨w.heap.size, 1, none⟩) (.slice A ps.length c) (by show w1.heap.size ≠ w.heap.size; omega)).cell)) (fun hHeld => ?_)
  clear hK K
  refine wpAnyH_ready (rs := [6]) (by kernel_rfl) (by simp) ?_
  refine AllReadyH.cons rfl (fun K hK => ?_) AllReadyH.nil
  go_simp
  refine hK.out _ _ (by first | assumption | go_keep | exact (((HI1.out.box.other (p := ⟨w.heap.size, 0, none⟩) (.int .i64 N) (by show w1.heap.size ≠ w.heap.size; omega)).other (p := ⟨w.heap.size, 1, none⟩) (.slice A ps.length c) (by show w1.heap.size ≠ w.heap.size; omega)).cell)) (fun hHeld => ?_)
  clear hK K
  refine wpAnyH_ready (rs := [7]) (by kernel_rfl) (by simp) ?_
  refine AllReadyH.cons rfl (fun K hK => ?_) AllReadyH.nil
  go_simp
  refine hK.out _ _ (by first | assumption | go_keep | exact (((HI1.out.box.other (p := ⟨w.heap.size, 0, none⟩) (.int .i64 N) (by show w1.heap.size ≠ w.heap.size; omega)).other (p := ⟨w.heap.size, 1, none⟩) (.slice A ps.length c) (by show w1.heap.size ≠ w.heap.size; omega)).cell)) (fun hHeld => ?_)
  clear hK K
  refine wpAnyH_done (by kernel_rfl) ?_ _
  clear hHeld
  go_wp2_with fail
  refine bodyPost_ret (v := .tuple #[nv N A ps.length c, .slice (some ⟨q2, 0, none⟩) fl.length c2, .int .i64 z0]) (by simp [results, Try.results43, go_sem, s0, s1]) rfl ⟨N, A, c, ps, q1, c1, dm, q2, c2, fl, z0, rfl, hD.out⟩
set_option maxHeartbeats 4000000 in
set_option maxRecDepth 100000 in
theorem dalong_any (a : Option Addr) (n cap : Nat) (w : World) (h : S1.Cd w.heap.size a n w) (hn : n ≤ 65536) :
    Calls Try.prog 33 #[.slice a n cap] w fun e w' => ∃ (N : Int) (A : Option Addr) (c : Nat) (ps : List Pp) (q1 c1 : Nat) (dm : List Int) (q2 c2 : Nat) (fl : List Int) (z0 : Int) (z1 : Int), e = .returned (.tuple #[nv N A ps.length c, .slice (some ⟨q2, 0, none⟩) fl.length c2, .int .i64 z0, .int .i64 z1]) ∧ DImb w w' N A c ps q1 c1 dm q2 c2 fl := by
  have HC := Lib.hid (h.later (alloc_below w (nb 0 none 0 0)) (Nat.le_refl _))
  clear h
  go_enter Try.func33, Try.ntmps33
  refine Hid.out ?_
  refine Lib.hid ?_
  go_wp2_with (first | (go_at_call 50; refine (dheavy_any a n cap _ HC.out hn).mono ?_; rintro e w1 ⟨N, A, c, ps, q1, c1, dm, q2, c2, fl, rfl, hd⟩; refine Hid.out ?_) | fail)
  have HT := ((TN.made w (.int .i64 0) (.slice none 0 0)).below hd.2.2.2.2.2)
  have hRz := HT.lt
  have HS0 := S1.st_start cap ((HC.out.later hd.2.2.2.2.2 (Nat.le_refl _)).later (alloc_below w1 (nb N A ps.length c)) (Nat.le_refl _)) hn
  rw [size_alloc] at HS0
  have hb2 : Below (w1.alloc (nb N A ps.length c)).heap.size (w1.alloc (nb N A ps.length c)) ((w1.alloc (nb N A ps.length c)).alloc (.cells #[.slice a n cap, .int .i64 0, .int .u64 0] 87)) := alloc_below _ _
  have hb1 : Below w1.heap.size w1 ((w1.alloc (nb N A ps.length c)).alloc (.cells #[.slice a n cap, .int .i64 0, .int .u64 0] 87)) := (alloc_below w1 (nb N A ps.length c)).trans (hb2.mono (by simp))
  have HI0 := Lib.hid (show EI w w1 ((w1.alloc (nb N A ps.length c)).alloc (.cells #[.slice a n cap, .int .i64 0, .int .u64 0] 87)) a n cap 0 N A c ps from
    ⟨HS0, hb1, ((hd.1.old (g := w1.heap.size + 1) (by omega)).on hb1), (TN.made w1 _ _).below hb2, HT.below hb1, hRz⟩)
  have HD := Lib.hid hd
  clear hd HS0 hb1 hb2 HC HT
  refine Lib.hid ?_
  go_upto_region 3 with (fail)
  obtain ⟨wa, hwa⟩ : ∃ wa, (w1.alloc (nb N A ps.length c)).alloc (.cells #[.slice a n cap, .int .i64 0, .int .u64 0] 87) = wa := ⟨_, rfl⟩
  rw [hwa] at HI0 ⊢
  clear hwa
  have hN9 := HI0.out.net.n9
  obtain ⟨b0, b1⟩ := HI0.out.box.cell
  have hy0 := HI0.out.box.lt
  refine wp_region_held_drew (S := fun w' => w'.cell? ⟨w1.heap.size, 0, none⟩ = some (.int .i64 N) ∧ w'.cell? ⟨w1.heap.size, 1, none⟩ = some (.slice A ps.length c)) (by kernel_rfl) (by exact ⟨b0, b1⟩) (fun hHeld => ?_)
  refine wpAnyH_take (i := 0) (v := .agg #[.int .i64 N, .slice A ps.length c]) rfl (by kernel_rfl) (by kernel_rfl) (by kernel_rfl) (fun _ _ _ h => h) (Or.inl ⟨by kernel_rfl, ?_⟩) (by assumption) ?_
  · (intro w hSw; (try dsimp only at hSw); go_simp)
  simp only [Act.put, List.setIfInBounds_toArray]
  refine wpAnyH_take (i := 1) (v := .slice (some ⟨q2, 0, none⟩) fl.length c2) rfl (by kernel_rfl) (by kernel_rfl) (by kernel_rfl) (fun _ _ _ h => h) (Or.inl ⟨by kernel_rfl, ?_⟩) (by assumption) ?_
  · (intro w hSw; (try dsimp only at hSw); go_simp)
  simp only [Act.put]
  refine wpAnyH_take (i := 2) (v := .pointer (some ⟨w1.heap.size + 1, 0, none⟩)) rfl (by kernel_rfl) (by kernel_rfl) (by kernel_rfl) (fun _ _ _ h => h) (Or.inl ⟨by kernel_rfl, ?_⟩) (by assumption) ?_
  · (intro w hSw; (try dsimp only at hSw); go_simp)
  simp only [Act.put]
  refine wpAnyH_take (i := 3) (v := .agg #[.int .i64 N, .slice A ps.length c]) rfl (by kernel_rfl) (by kernel_rfl) (by kernel_rfl) (fun _ _ _ h => h) (Or.inl ⟨by kernel_rfl, ?_⟩) (by assumption) ?_
  · (intro w hSw; (try dsimp only at hSw); go_simp)
  simp only [Act.put]
  refine wpAnyH_take (i := 5) (v := .pointer (some ⟨w1.heap.size + 1, 0, none⟩)) rfl (by kernel_rfl) (by kernel_rfl) (by kernel_rfl) (fun _ _ _ h => h) (Or.inl ⟨by kernel_rfl, ?_⟩) (by assumption) ?_
  · (intro w hSw; (try dsimp only at hSw); go_simp)
  simp only [Act.put]
  refine wpAnyH_take (i := 6) (v := .agg #[.int .i64 N, .slice A ps.length c]) rfl (by kernel_rfl) (by kernel_rfl) (by kernel_rfl) (fun _ _ _ h => h) (Or.inl ⟨by kernel_rfl, ?_⟩) (by assumption) ?_
  · (intro w hSw; (try dsimp only at hSw); go_simp)
  simp only [Act.put]
  have HI0x := Lib.hid (HI0.out.quiet (Below.refl _ _).drew)
  clear HI0 b0 b1
  refine wpAnyH_ready (rs := [4]) (by kernel_rfl) (by simp) ?_
  refine AllReadyH.cons rfl (fun K hK => ?_) AllReadyH.nil
  go_simp
  go_at_call 76
  refine (node_draw (w1.heap.size + 1) (w1.heap.size + 1) a n cap 0 N A ps.length c _ (by omega) (by omega) HI0x.out.st).mono ?_
  rintro e v0 ⟨⟨z0, rfl⟩, hs, hg⟩
  have HI1 := Lib.hid (HI0x.out.call hs hg)
  clear hs hg
  obtain ⟨x0, y0⟩ := HI1.out.box.cell
  refine hK.out _ _ (by exact ⟨x0, y0⟩) (fun hHeld => ?_)
  clear hK K
  refine wpAnyH_ready (rs := [7]) (by kernel_rfl) (by simp) ?_
  refine AllReadyH.cons rfl (fun K hK => ?_) AllReadyH.nil
  go_simp
  go_at_call 76
  refine (node_draw (w1.heap.size + 1) (w1.heap.size + 1) a n cap 4 N A ps.length c _ (by omega) (by omega) HI1.out.st).mono ?_
  rintro e v1 ⟨⟨z1, rfl⟩, hs, hg⟩
  have HI2 := Lib.hid (HI1.out.call hs hg)
  clear hs hg
  obtain ⟨x1, y1⟩ := HI2.out.box.cell
  obtain ⟨s0, s1⟩ := HI2.out.res.cell
  have sf := HI2.out.res.frozen
  have sz := HI2.out.res.lt
  refine hK.out _ _ (by exact ⟨x1, y1⟩) (fun hHeld => ?_)
  clear hK K
  have hD := Lib.hid ((HD.out.on HI2.out.bel).fin (.int .i64 N) (.slice A ps.length c))
  refine wpAnyH_ready (rs := [8]) (by kernel_rfl) (by simp) ?_
  refine AllReadyH.cons rfl (fun K hK => ?_) AllReadyH.nil
  go_simp
  refine hK.out _ _ (by first | assumption | go_keep | exact (((HI2.out.box.other (p := ⟨w.heap.size, 0, none⟩) (.int .i64 N) (by show w1.heap.size ≠ w.heap.size; omega)).other (p := ⟨w.heap.size, 1, none⟩) (.slice A ps.length c) (by show w1.heap.size ≠ w.heap.size; omega)).cell)) (fun hHeld => ?_)
  clear hK K
  refine wpAnyH_ready (rs := [9]) (by kernel_rfl) (by simp) ?_
  refine AllReadyH.cons rfl (fun K hK => ?_) AllReadyH.nil
  go_simp
  refine hK.out _ _ (by first | assumption | go_keep | exact (((HI2.out.box.other (p := ⟨w.heap.size, 0, none⟩) (.int .i64 N) (by show w1.heap.size ≠ w.heap.size; omega)).other (p := ⟨w.heap.size, 1, none⟩) (.slice A ps.length c) (by show w1.heap.size ≠ w.heap.size; omega)).cell)) (fun hHeld => ?_)
  clear hK K
  refine wpAnyH_ready (rs := [10]) (by kernel_rfl) (by simp) ?_
  refine AllReadyH.cons rfl (fun K hK => ?_) AllReadyH.nil
  go_simp
  refine hK.out _ _ (by first | assumption | go_keep | exact (((HI2.out.box.other (p := ⟨w.heap.size, 0, none⟩) (.int .i64 N) (by show w1.heap.size ≠ w.heap.size; omega)).other (p := ⟨w.heap.size, 1, none⟩) (.slice A ps.length c) (by show w1.heap.size ≠ w.heap.size; omega)).cell)) (fun hHeld => ?_)
  clear hK K
  refine wpAnyH_ready (rs := [11]) (by kernel_rfl) (by simp) ?_
  refine AllReadyH.cons rfl (fun K hK => ?_) AllReadyH.nil
  go_simp
  refine hK.out _ _ (by first | assumption | go_keep | exact (((HI2.out.box.other (p := ⟨w.heap.size, 0, none⟩) (.int .i64 N) (by show w1.heap.size ≠ w.heap.size; omega)).other (p := ⟨w.heap.size, 1, none⟩) (.slice A ps.length c) (by show w1.heap.size ≠ w.heap.size; omega)).cell)) (fun hHeld => ?_)
  clear hK K
  refine wpAnyH_done (by kernel_rfl) ?_ _
  clear hHeld
  go_wp2_with fail
  refine bodyPost_ret (v := .tuple #[nv N A ps.length c, .slice (some ⟨q2, 0, none⟩) fl.length c2, .int .i64 z0, .int .i64 z1]) (by simp [results, Try.results33, go_sem, s0, s1]) rfl ⟨N, A, c, ps, q1, c1, dm, q2, c2, fl, z0, z1, rfl, hD.out⟩
end Go.Proofs.Ytikppgbipdflbab.S2
