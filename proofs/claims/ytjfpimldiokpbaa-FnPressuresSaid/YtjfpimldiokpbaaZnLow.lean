/- The places from the lowest on: slices.Collect, slices.Sorted at int and the program's own call of them: contracts. Conditions: each theorem's own premises. -/
import Derived.Test.YtjfpimldiokpbaaZnSort
namespace Go.Proofs.Ytjfpimldiokpbaa.S12
open Go.RowKit P12

def RowPost (w : World) (zs : List Int) (e : Ending) (w' : World) : Prop := ∃ v, e = .returned v ∧ w'.ownsRow w.heap.size 3 1 v zs.length (zs.map iv) ∧ (v = .slice none 0 0 ↔ zs = []) ∧ Below w.heap.size w w'
theorem collect_any (Bs cap : Nat) (A : Option Addr) (zs : List Int) (hreach : zs.length ≤ 1048576) (w : World) (hBs : Bs < w.heap.size) (hc : w.cell? ⟨Bs, 0, none⟩ = some (.slice A zs.length cap)) (hI : IAt w A zs) :
    Calls Try.prog 76 #[.func (.func 78) #[] #[.pointer (some ⟨Bs, 0, none⟩)]] w (RowPost w zs) := by
  have H := Lib.hid ((callsIn_wide (n := 4)).1 (appseq_in Fence.wide 4 trivial trivial rfl (by omega) Bs cap A zs hreach w hBs hc hI))
  clear hc hI
  go_enter Try.func76, Try.ntmps76
  go_wp2_with (go_at_call 81; refine H.out.mono ?_; rintro e w1 ⟨v, rfl, hP⟩; replace hP := Lib.hid hP)
  go_ret
  exact ⟨v, rfl, hP.out⟩
theorem sort_row {w : World} {B g c : Nat} {l : List Int} (h : w.ownsRow B 3 1 (.slice (some ⟨g, 0, none⟩) l.length c) l.length (l.map iv)) (hl : l.length ≤ 1048576) :
    Calls Try.prog 77 #[.slice (some ⟨g, 0, none⟩) l.length c] w fun e w' => e = .returned (.tuple #[]) ∧ w'.ownsRow B 3 1 (.slice (some ⟨g, 0, none⟩) l.length c) l.length ((l.mergeSort fun x y => decide (x ≤ y)).map iv) ∧ w.grownBy w' (some g) := by
  rcases h.2 with ⟨h0, _⟩ | ⟨g', c', cur, hv, hbase, hheap, hn, hcap, hsz, htake⟩
  · cases h0
  · have e1 : g' = g ∧ c' = c := by
      have := hv
      simp only [Value.slice.injEq, Option.some.injEq, Addr.mk.injEq, and_true, true_and] at this
      exact ⟨this.1.symm, this.2.symm⟩
    obtain ⟨rfl, rfl⟩ := e1
    rw [Nat.mul_one] at htake
    refine (Try.slices_Sort_int g' 0 c' l w (holds_of_blockI hheap htake) (Array.getElem?_eq_some_iff.1 hheap).1 (by omega)).mono ?_
    rintro e w' ⟨he, n, os, rfl⟩
    exact ⟨he, ownsRow_sortedI (ts := l.mergeSort fun x y => decide (x ≤ y)) (List.length_mergeSort l) hbase hheap hn hcap hsz, grownBy_sortedI _⟩
def sL (l : List Int) : List Int := l.mergeSort fun x y => decide (x ≤ y)
theorem sL_len (l : List Int) : (sL l).length = l.length := List.length_mergeSort l
theorem sL_perm (l : List Int) : (sL l).Perm l := List.mergeSort_perm l _
theorem sL_asc (l : List Int) : (sL l).Pairwise (· ≤ ·) := sort_asc l
theorem sL_nil : sL [] = [] := List.length_eq_zero_iff.1 (sL_len [])
def SrtPost (w : World) (zs : List Int) (e : Ending) (w' : World) : Prop := ∃ A cap, e = .returned (.slice A zs.length cap) ∧ IAt w' A (sL zs) ∧ (∀ b o, A = some ⟨b, o, none⟩ → w.heap.size ≤ b) ∧ Below w.heap.size w w'
theorem row_form {w : World} {B : Nat} {v : Value} {zs : List Int} (h : w.ownsRow B 3 1 v zs.length (zs.map iv)) (h0 : zs ≠ []) : ∃ g c, v = .slice (some ⟨g, 0, none⟩) zs.length c := by
  obtain ⟨g, c, hv, _⟩ := h.form (List.length_pos_iff.2 h0)
  exact ⟨g, c, hv⟩
theorem sorted_any (Bs cap : Nat) (A : Option Addr) (zs : List Int) (hreach : zs.length ≤ 1048576) (w : World) (hBs : Bs < w.heap.size) (hc : w.cell? ⟨Bs, 0, none⟩ = some (.slice A zs.length cap)) (hI : IAt w A zs) :
    Calls Try.prog 72 #[.func (.func 78) #[] #[.pointer (some ⟨Bs, 0, none⟩)]] w (SrtPost w zs) := by
  have H := Lib.hid (collect_any Bs cap A zs hreach w hBs hc hI)
  clear hc hI
  by_cases h0 : zs = []
  · subst h0
    have H2 := Lib.hid (H.out.mono (R' := fun e w' => e = .returned (.slice none 0 0) ∧ Below w.heap.size w w') (fun e w' ⟨v, he, hr, hn, hb⟩ => by
      rw [hn.2 rfl] at he; exact ⟨he, hb⟩))
    clear H
    go_enter Try.func72, Try.ntmps72
    go_wp2_with (first | (go_at_call 76; refine H2.out.mono ?_; rintro e w1 ⟨rfl, hb1⟩; replace hb1 := Lib.hid hb1) | (go_at_call 77; refine (Try.slices_Sort_int_none none 0 _).mono ?_; rintro e w2 ⟨rfl, rfl⟩))
    go_ret
    exact ⟨none, 0, rfl, .inl sL_nil, fun b o h => (by cases h), hb1.out⟩
  · have H2 := Lib.hid (H.out.mono (R' := fun e w' => ∃ g c, e = .returned (.slice (some ⟨g, 0, none⟩) zs.length c) ∧ w'.ownsRow w.heap.size 3 1 (.slice (some ⟨g, 0, none⟩) zs.length c) zs.length (zs.map iv) ∧ Below w.heap.size w w') (fun e w' ⟨v, he, hr, hn, hb⟩ => by
      obtain ⟨g, c, rfl⟩ := row_form hr h0
      exact ⟨g, c, he, hr, hb⟩))
    clear H h0
    go_enter Try.func72, Try.ntmps72
    go_wp2_with (first | (go_at_call 76; refine H2.out.mono ?_; rintro e w1 ⟨g, c, rfl, hr1, hb1⟩; refine Hid.out ?_) | fail)
    have HS := Lib.hid (sort_row hr1 hreach)
    have hgb := (World.ownsRow.lt hr1 g rfl).1
    replace hb1 := Lib.hid hb1
    clear hr1
    refine Lib.hid ?_
    go_wp2_with (first | (go_at_call 77; refine HS.out.mono ?_; rintro e w2 ⟨rfl, hr2, hg2⟩; replace hr2 := Lib.hid hr2; replace hg2 := Lib.hid hg2) | fail)
    go_ret
    refine ⟨some ⟨g, 0, none⟩, c, rfl, ?_, fun b o h => (by cases h; exact hgb), hb1.out.grown hg2.out hb1.out.size (fun k hk => by simp at hk; omega)⟩
    have e : (sL zs).length = zs.length := sL_len zs
    have hI : IOwn w2 w.heap.size (.slice (some ⟨g, 0, none⟩) (sL zs).length c) (sL zs) := by
      unfold IOwn; rw [e]; exact hr2.out
    exact hI.iat
theorem low_any (cap : Nat) (A : Option Addr) (zs : List Int) (hreach : zs.length ≤ 1048576) (w : World) (hI : IAt w A zs) :
    Calls Try.prog 58 #[.slice A zs.length cap] w (SrtPost w zs) := by
  have hB0 := alloc_below w (.cells #[.slice A zs.length cap] 28)
  have H := Lib.hid (sorted_any w.heap.size cap A zs hreach (w.alloc (.cells #[.slice A zs.length cap] 28)) (by simp) box_at (hI.kept hB0 (Nat.le_refl _)))
  have HB0 := Lib.hid hB0
  clear hI hB0
  go_enter Try.func58, Try.ntmps58
  go_wp2_with (first | (go_at_call 73; refine (values_any _ _ _ _).mono ?_; rintro e w1 ⟨rfl, rfl⟩) | (go_at_call 72; refine H.out.mono ?_; rintro e w2 ⟨A2, c2, rfl, hP, hfr, hb2⟩; replace hP := Lib.hid hP; replace hfr := Lib.hid hfr; replace hb2 := Lib.hid hb2))
  go_ret
  exact ⟨A2, c2, rfl, hP.out, fun b o h => (by have := hfr.out b o h; simp at this; omega), HB0.out.trans (hb2.out.mono HB0.out.size)⟩
end Go.Proofs.Ytjfpimldiokpbaa.S12
