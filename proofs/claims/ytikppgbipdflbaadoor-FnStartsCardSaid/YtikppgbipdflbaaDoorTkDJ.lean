/- Lists of volumes and days, drawn; the arguments of the laws on tanks, drawn: contracts. Conditions: each theorem's own premises. -/
import Derived.Test.YtikppgbipdflbaaDoorTkDI
import Derived.OwnWalk
namespace Go.Proofs.YtikppgbipdflbaaDoor.S11
open Go.RowKit Go.Sort P11

/-- A list of volumes under way. -/
structure VI (w wr : World) (B g : Nat) (a : Option Addr) (n cap K : Nat) (v : Value) (l : List Int) : Prop where
  st : S1.St B g a n cap K wr
  gr : w.grownBy wr (some g)
  own : IOwn wr w.heap.size v l
  gw : g < w.heap.size
theorem VI.alloc {w wr : World} {B g : Nat} {a : Option Addr} {n cap K : Nat} {v : Value} {l : List Int} (h : VI w wr B g a n cap K v l) (ob : Obj) : VI w (wr.alloc ob) B g a n cap K v l :=
  ⟨S1.st_new h.st _, S1.grown_new h.gr _, h.own.alloc _, h.gw⟩
theorem VI.call {w wr w2 : World} {B g : Nat} {a : Option Addr} {n cap K K' : Nat} {v : Value} {l : List Int} (h : VI w wr B g a n cap K v l) (hs : S1.St B g a n cap K' w2) (hg : wr.grownBy w2 (some g)) : VI w w2 B g a n cap K' v l :=
  ⟨hs, S1.grown_trans h.gr hg, World.ownsRow.kept h.own hg (.inr (fun e => by have := (World.ownsRow.lt h.own g e).1; have := h.gw; omega)), h.gw⟩
theorem VI.more {w wr : World} {B g : Nat} {a : Option Addr} {n cap K K' : Nat} {v : Value} {l : List Int} (h : VI w wr B g a n cap K v l) (hK : K ≤ K') : VI w wr B g a n cap K' v l := ⟨h.st.more hK, h.gr, h.own, h.gw⟩
theorem VI.push {w wr w2 : World} {B g q cc : Nat} {a : Option Addr} {n cap K : Nat} {x : Int} {v' : Value} {l : List Int} (h : VI w wr B g a n cap K (.slice (some ⟨q, 0, none⟩) l.length cc) l) (hg : wr.grownBy w2 (some q)) (ho : w2.ownsRow w.heap.size 3 1 v' (l.length + 1) (l.map iv ++ [iv x])) : VI w w2 B g a n cap K v' (l ++ [x]) := by
  have hq := World.ownsRow.lt h.own q rfl
  have hgw := h.gw
  exact ⟨st_row h.st hg (by omega), grown_row h.gr hg (by omega), IOwn.push ho, hgw⟩
theorem VI.set {w wr : World} {B g q cc : Nat} {a : Option Addr} {n cap K : Nat} {l : List Int} (h : VI w wr B g a n cap K (.slice (some ⟨q, 0, none⟩) l.length cc) l) (k : Nat) (x : Int) : VI w (wr.setCell ⟨q, k, none⟩ (iv x)) B g a n cap K (.slice (some ⟨q, 0, none⟩) (l.set k x).length cc) (l.set k x) := by
  have hq := World.ownsRow.lt h.own q rfl
  have hgw := h.gw
  have hbg := h.st.bg
  have ho := IOwn.set h.own rfl k x
  refine ⟨S1.st_far h.st (by omega) (by omega), S1.grown_setnew h.gr (by omega), ?_, hgw⟩
  simpa using ho
/-- What a drawn list is. -/
def VPost (B g : Nat) (a : Option Addr) (n cap K m : Nat) (w : World) (e : Ending) (w' : World) : Prop :=
  ∃ (q cc : Nat) (l : List Int), e = .returned (.slice (some ⟨q, 0, none⟩) l.length cc) ∧ l.length = m ∧ w.heap.size ≤ q ∧ IAt w' (some ⟨q, 0, none⟩) l ∧ S1.St B g a n cap K w' ∧ w.grownBy w' (some g)
theorem VI.post {w wr : World} {B g q cc k K' : Nat} {a : Option Addr} {n cap K : Nat} {l : List Int} (h : VI w wr B g a n cap K (.slice (some ⟨q, 0, none⟩) l.length cc) l) (hl : l.length = k) (hK : K ≤ K') : VPost B g a n cap K' k w (.returned (.slice (some ⟨q, 0, none⟩) k cc)) wr := by
  subst hl
  exact ⟨q, cc, l, rfl, rfl, (World.ownsRow.lt h.own q rfl).1, h.own.iat, h.st.more hK, h.gr⟩
set_option maxHeartbeats 4000000 in
set_option maxRecDepth 100000 in
theorem volumes_draw (B g : Nat) (a : Option Addr) (n cap K : Nat) (N : Nat) (w : World) (hK : K ≤ 800000) (hN : N ≤ 14) (h : S1.St B g a n cap K w) (hgw : g < w.heap.size) :
    Calls Tryd.prog 58 #[.pointer (some ⟨g, 0, none⟩), .int .i64 (N : Int)] w (VPost B g a n cap (K + 50) N w) := by
  have hBg := h.bg
  obtain ⟨i0, hi, hz0, hz1, hz2⟩ := info_parts infoI
  have HL0 := Lib.hid (show VI w (w.alloc (.cells #[] 3)) B g a n cap K (.slice (some ⟨w.heap.size, 0, none⟩) 0 0) [] from
    ⟨S1.st_new h _, World.grownBy_alloc w _ (some g), own_empty w _ (Nat.le_refl _), hgw⟩)
  clear h
  go_enter Tryd.func58, Tryd.ntmps58
  go_wp2_with fail
  go_loopw [5, 6] (fun v nd wr => ∃ (k q cc : Nat) (l : List Int), nd = .int .i64 (k : Int) ∧ k ≤ N ∧ l.length = k ∧ v = .slice (some ⟨q, 0, none⟩) k cc ∧ Hid (VI w wr B g a n cap (K + 2 * k) (.slice (some ⟨q, 0, none⟩) l.length cc) l)) (fun _ nd _ => (20 - intOf nd).toNat)
  case atStart => exact ⟨0, w.heap.size, 0, [], rfl, by omega, rfl, rfl, HL0⟩
  case round =>
    clear HL0
    obtain ⟨k, q, cc, l, rfl, hkN, hlk, rfl, HL⟩ := hrel
    obtain ⟨wo, hwo⟩ : ∃ wo, wo = wr := ⟨_, rfl⟩
    subst hwo
    have HLK := Lib.hid hlk
    clear hlk
    have hgz0 := HL.out.gr.size
    by_cases hlt : k < N
    · have hle : decide ((k : Int) < (N : Int)) = true := decide_eq_true (by omega)
      refine Hid.out ?_
      refine Lib.hid ?_
      go_wp2_with (first
        | (go_at_call 45; refine (S1.among_any B g a n cap (K + 2 * k) wo.heap.size 8 8 [0, 1, 3, 5, 5, 8, 12, 20] _ rfl (by omega) (by simp) (by simp) (HL.out.alloc (.cells #[.int .i64 0, .int .i64 1, .int .i64 3, .int .i64 5, .int .i64 5, .int .i64 8, .int .i64 12, .int .i64 20] 3)).st (fun j hj => S1.ti_new wo [0, 1, 3, 5, 5, 8, 12, 20] 3 j hj) (by omega)).mono ?_; rintro e w5 ⟨⟨z, rfl⟩, hs, hg⟩; refine Hid.out ?_)
        | fail)
      have HL5 := Lib.hid ((HL.out.alloc (.cells #[.int .i64 0, .int .i64 1, .int .i64 3, .int .i64 5, .int .i64 5, .int .i64 8, .int .i64 12, .int .i64 20] 3)).call hs hg)
      have ho := HL5.out.own
      rw [HLK.out] at ho
      have hgz := HL5.out.gr.size
      clear hs hg
      refine Lib.hid ?_
      go_wp2_with (first
        | (at_builtin; go_must (refine wpList_append_own _ rfl _ _ 24 rfl w.heap.size 3 i0 (.int .i64 0) 1 8 Tryd.underlying24 hi hz0 hz1 hz2 rfl (by decide) _ _ _ rfl (ho.alloc _) ⟨w5.heap.size, 0, none⟩ 1 1 [iv z] rfl rfl (cell_one_new _ _ _) (by intro u hu; simp at hu; subst hu; rfl) (by have := HLK.out; unfold maxLen; omega) (by have := HLK.out; omega) (by have := HLK.out; simp; omega) ?_); intro v' w7 hown' hgrow hnil)
        | fail)
      have hg7 : (w5.alloc (.cells #[iv z] 3)).grownBy w7 (some q) := hgrow
      obtain ⟨q2, cc2, hv2, -⟩ := World.ownsRow.form hown' (by omega)
      subst hv2
      have HL7 := Lib.hid ((HL5.out.alloc (.cells #[iv z] 3)).push hg7 hown')
      clear hown' hgrow hnil ho HL5 hg7
      have hlen : (l ++ [z]).length = k + 1 := by simp [HLK.out]
      have HX2 := Lib.hid (show VI w w7 B g a n cap (K + 2 * (k + 1)) (.slice (some ⟨q2, 0, none⟩) (l ++ [z]).length cc2) (l ++ [z]) by
        have hx2 := HL7.out.more (K' := K + 2 * (k + 1)) (by omega)
        have hl2 : (l ++ [z]).length = l.length + 1 := by simp
        rw [hl2]
        exact hx2)
      clear HL7
      go_wp2_with fail
      go_roundw
      case rel => exact ⟨k + 1, q2, cc2, l ++ [z], by go_num, by omega, hlen, by rw [HLK.out], HX2⟩
      case measure => simp [intOf]; omega
    · have hle : decide ((k : Int) < (N : Int)) = false := decide_eq_false (by omega)
      obtain rfl : k = N := by omega
      by_cases h0 : k = 0
      · have hd0 : decide (0 < (k : Int)) = false := decide_eq_false (by omega)
        clear hlt
        have hy := HL.out.post HLK.out (K' := K + 50) (by omega)
        have HY := Lib.hid hy
        clear hy
        refine Hid.out ?_
        refine Lib.hid ?_
        go_wp2_with fail
        go_ret
        exact HY.out
      · have hd0 : decide (0 < (k : Int)) = true := decide_eq_true (by omega)
        clear hlt
        refine Hid.out ?_
        refine Lib.hid ?_
        go_wp2_with (first | (go_at_call 57; refine (S1.one_any B g a n cap (K + 2 * k) 24 _ (by omega) (by omega) (by omega) HL.out.st).mono ?_; rintro e w5 ⟨b5, rfl, hs, hg⟩; refine Hid.out ?_) | fail)
        have HL5 := Lib.hid (HL.out.call hs hg)
        have hgz := HL5.out.gr.size
        clear hs hg
        cases b5 with
        | false =>
          have HY := Lib.hid (HL5.out.post HLK.out (K' := K + 50) (by omega))
          refine Lib.hid ?_
          go_wp2_with fail
          go_ret
          exact HY.out
        | true =>
          refine Lib.hid ?_
          go_wp2_with (first
            | (go_at_call 56; refine (S1.pick_any B g a n cap (K + 2 * k + 2) (k : Int) _ (by omega) (by omega) (by omega) HL5.out.st).mono ?_; rintro e w6 ⟨r, rfl, hr0, hr1, hs, hg⟩; refine Hid.out ?_)
            | fail)
          have HL6 := Lib.hid (HL5.out.call hs hg)
          have hgz6 := HL6.out.gr.size
          clear hs hg
          refine Lib.hid ?_
          go_wp2_with (first
            | (go_at_call 45; refine (S1.among_any B g a n cap (K + 2 * k + 4) w6.heap.size 3 3 [-1, 100, 101] _ rfl (by omega) (by simp) (by simp) (HL6.out.alloc (.cells #[.int .i64 (-1), .int .i64 100, .int .i64 101] 3)).st (fun j hj => S1.ti_new w6 [-1, 100, 101] 3 j hj) (by omega)).mono ?_; rintro e w7 ⟨⟨z, rfl⟩, hs, hg⟩; refine Hid.out ?_)
            | fail)
          have HL7 := Lib.hid ((HL6.out.alloc (.cells #[.int .i64 (-1), .int .i64 100, .int .i64 101] 3)).call hs hg)
          clear hs hg
          obtain ⟨rn, rfl⟩ : ∃ rn : Nat, r = (rn : Int) := ⟨r.toNat, by omega⟩
          have hrn : rn < l.length := by have := HLK.out; omega
          have ho := HL7.out.own
          unfold IOwn at ho
          have hfz := ho.frozenAt rn
          have hcz : w7.cell? ⟨q, rn, none⟩ = some (iv (l.getD rn 0)) := by rw [ho.cellAt rn (by omega)]; simp [List.getD, hrn]
          clear ho
          have HLn := Lib.hid (show (l.set rn z).length = k by rw [List.length_set]; exact HLK.out)
          have HY := Lib.hid ((HL7.out.set rn z).post HLn.out (K' := K + 50) (by omega))
          refine Lib.hid ?_
          go_wp2_with fail
          go_ret
          exact HY.out
end Go.Proofs.YtikppgbipdflbaaDoor.S11
