/- The flattened profile, the program's: contracts. Conditions: each theorem's own premises. -/
import Derived.Test.YtkgkeohnnpkahaaPfCln
import Derived.Deep.LoopGhost
namespace Go.Proofs.Ytkgkeohnnpkahaa.S6
open Go.RowKit P6

def moB (x : Int) : Bool := decide (100 ≤ x ∧ x ≤ 1000)
set_option maxHeartbeats 2000000 in
theorem fla_no (A : Option Addr) (cap : Nat) (l : List Int) (y : Int) (w : World) (h : IAt w A l) (hm : l.length ≤ 1048576) (hn : (gdB l && moB y) = false) :
    Calls Try.prog 23 #[dv A l.length cap, .int .i64 y] w (GivesPN w) := by
  obtain ⟨v, hv⟩ : ∃ v, gdB l = v := ⟨_, rfl⟩
  have HV := Lib.hid (fun w' (hb : Below w.heap.size w w') => valid_v hv A cap w' (h.kept hb (Nat.le_refl _)) hm)
  rw [hv] at hn
  clear h hv
  have hy : v = false ∨ ¬ (100 ≤ y ∧ y ≤ 1000) := by revert hn; unfold moB; cases v <;> simp
  clear hn
  go_enter Try.func23, Try.ntmps23
  cases v
  case false =>
    clear hy
    go_wp2_with (go_at_call 21; refine (HV.out _ (two_below _ _ _)).mono ?_; rintro e w1 ⟨rfl, hb1⟩; obtain ⟨hB, c0, c1, f1, hz⟩ := two_cells hb1)
    refine bodyPost_ret (v := .tuple #[dv none 0 0, .bool false]) (by simp [results, Try.results23, go_sem, c1]) rfl ⟨rfl, (under2 hB).setCell (p := ⟨w.heap.size + 1, 0, none⟩) (by show w.heap.size ≤ w.heap.size + 1; omega) _⟩
  case true =>
    have hy2 : ¬ (100 ≤ y ∧ y ≤ 1000) := by simpa using hy
    clear hy
    by_cases hy0 : y < 100
    · clear hy2
      go_wp2_with (go_at_call 21; refine (HV.out _ (two_below _ _ _)).mono ?_; rintro e w1 ⟨rfl, hb1⟩; obtain ⟨hB, c0, c1, f1, hz⟩ := two_cells hb1)
      refine bodyPost_ret (v := .tuple #[dv none 0 0, .bool false]) (by simp [results, Try.results23, go_sem, c1]) rfl ⟨rfl, (under2 hB).setCell (p := ⟨w.heap.size + 1, 0, none⟩) (by show w.heap.size ≤ w.heap.size + 1; omega) _⟩
    · have hy9 : 1000 < y := by omega
      clear hy2
      go_wp2_with (go_at_call 21; refine (HV.out _ (two_below _ _ _)).mono ?_; rintro e w1 ⟨rfl, hb1⟩; obtain ⟨hB, c0, c1, f1, hz⟩ := two_cells hb1)
      refine bodyPost_ret (v := .tuple #[dv none 0 0, .bool false]) (by simp [results, Try.results23, go_sem, c1]) rfl ⟨rfl, (under2 hB).setCell (p := ⟨w.heap.size + 1, 0, none⟩) (by show w.heap.size ≤ w.heap.size + 1; omega) _⟩

/-- One move, on the cells. -/
theorem mv_cells {wr : World} {B g cap : Nat} {l : List Int} (g0 : Gd l) (h : 100 < at0 l (pk l 24)) (ho : IOwn wr B (.slice (some ⟨g, 0, none⟩) 24 cap) l) :
    IOwn ((wr.setCell ⟨g, pk l 24, none⟩ (iv (at0 l (pk l 24) - 1))).setCell ⟨g, lo l 24, none⟩ (iv (at0 l (lo l 24) + 1))) B (.slice (some ⟨g, 0, none⟩) 24 cap) (mv l) := by
  have hp := pk_lt l 24 (by omega)
  have hb := low_below g0 h
  have hne : lo l 24 ≠ pk l 24 := fun e => by rw [e] at hb; omega
  have e : mv l = (l.set (pk l 24) (at0 l (pk l 24) - 1)).set (lo l 24) (at0 l (lo l 24) + 1) := by
    unfold mv
    simp only
    rw [at_set _ _ _ _ (by rw [g0.1]; exact hp), if_neg hne]
  unfold IOwn at ho ⊢
  rw [mv_len, g0.1, e, ← map_set, ← map_set]
  rw [g0.1] at ho
  exact ((ho.stored (pk l 24) (iv (at0 l (pk l 24) - 1))).1.stored (lo l 24) (iv (at0 l (lo l 24) + 1))).1
/-- What a round has: the numbers of the row and where they lie. -/
theorem row_facts {wr : World} {B g cap : Nat} {l : List Int} (hl : l.length = 24) (ho : IOwn wr B (.slice (some ⟨g, 0, none⟩) 24 cap) l) : IAt wr (some ⟨g, 0, none⟩) l ∧ (∀ i, i < 24 → wr.cell? ⟨g, i, none⟩ = some (iv (at0 l i))) ∧ (∀ i, wr.frozen? ⟨g, i, none⟩ = false) := by
  have h1 : IAt wr (some ⟨g, 0, none⟩) l := by rw [← hl] at ho; exact ho.iat
  obtain ⟨b, off, hA, _, hc⟩ := at_of h1 hl
  simp only [Option.some.injEq, Addr.mk.injEq, and_true] at hA
  obtain ⟨rfl, rfl⟩ := hA
  refine ⟨h1, fun i hi => by have := hc i hi; rwa [Nat.zero_add] at this, fun i => by unfold IOwn at ho; rw [hl] at ho; exact ho.frozenAt i⟩
set_option maxHeartbeats 8000000 in
theorem fla_yes (A : Option Addr) (cap : Nat) (l : List Int) (m : Int) (w : World) (h : IAt w A l) (g : Gd l) (hm1 : 100 ≤ m) (hm9 : m ≤ 1000) :
    Calls Try.prog 23 #[dv A l.length cap, .int .i64 m] w (GivesPI w (flL l m) true) := by
  have hl := g.1
  have HV := Lib.hid (fun w' (hb : Below w.heap.size w w') => valid_v (gd_mk g) A cap w' (h.kept hb (Nat.le_refl _)) (by omega))
  rw [hl] at HV ⊢
  have HCl := Lib.hid (fun w' (hb : Below w.heap.size w w') => clone_any A cap l w' (h.kept hb (Nat.le_refl _)) hl)
  obtain ⟨hN1, hN2⟩ := flN_spec g hm1
  have HGD := Lib.hid (mvs_gd g hm1 hN2)
  have HN1 := Lib.hid hN1
  have HN2 := Lib.hid hN2
  have HFL := Lib.hid (show mvs l (flN l m) = flL l m from rfl)
  generalize flN l m = N at *
  clear h g hl hN1 hN2
  go_enter Try.func23, Try.ntmps23
  go_wp2_with (first
    | (go_at_call 21; refine (HV.out _ (two_below _ _ _)).mono ?_; rintro e w1 ⟨rfl, hb1⟩; obtain ⟨hB, c0, c1, f1, hz⟩ := two_cells hb1)
    | (go_at_call 63; refine (HCl.out _ (under2 hB)).mono ?_; rintro e w2 ⟨gr, capr, rfl, hgr, hor, hb2⟩))
  have HB := Lib.hid (show tB w A cap w2 from hB.trans (hb2.mono hz))
  have HO := Lib.hid (own_lower (B' := w.heap.size + 2) hor (by omega))
  clear hB c0 c1 f1 hb1 hb2 hor
  go_loopg [] N (fun K wr => ∃ n, n ≤ N ∧ n + K = N ∧ Hid (IOwn wr (w.heap.size + 2) (.slice (some ⟨gr, 0, none⟩) 24 capr) (mvs l n)) ∧ Hid (tB w A cap wr))
  case atStart => exact ⟨0, by omega, by omega, HO, HB⟩
  case round =>
    clear HO HB
    obtain ⟨n, hn, hnK, hown, hb⟩ := hrel
    have hG := HGD.out n hn
    obtain ⟨hat, hce, hfr⟩ := row_facts hG.1 hown.out
    have HMx := Lib.hid (max_any (some ⟨gr, 0, none⟩) capr (mvs l n) wr hat hG.1)
    by_cases hlt : n < N
    · have hgt := HN2.out n hlt
      have hp := pk_lt (mvs l n) 24 (by omega)
      have hq := lo_lt (mvs l n) 24 (by omega)
      have hlow := low_below hG (by omega)
      have hne : ¬ lo (mvs l n) 24 = pk (mvs l n) 24 := fun e => by rw [e] at hlow; omega
      have hne2 : ¬ pk (mvs l n) 24 = lo (mvs l n) 24 := fun e => hne e.symm
      have HMn := Lib.hid (min_any (some ⟨gr, 0, none⟩) capr (mvs l n) wr hat hG.1)
      have HI1 := Lib.hid (index_any (some ⟨gr, 0, none⟩) capr (mvs l n) (at0 (mvs l n) (pk (mvs l n) 24)) (pk (mvs l n) 24) wr hat hG.1 hp rfl (fun j hj he => by have := (pk_most (mvs l n) 24 j (by omega)).2 hj; omega))
      have HI2 := Lib.hid (index_any (some ⟨gr, 0, none⟩) capr (mvs l n) (at0 (mvs l n) (lo (mvs l n) 24)) (lo (mvs l n) 24) wr hat hG.1 hq rfl (fun j hj he => by have := (lo_least (mvs l n) 24 j (by omega)).2 hj; omega))
      have hcp := hce _ hp
      have hcq := hce _ hq
      have hfp := hfr (pk (mvs l n) 24)
      have hfq := hfr (lo (mvs l n) 24)
      have bp := hG.2.1 _ hp
      have bq := hG.2.1 _ hq
      have hnx := Lib.hid (mv_cells hG (by omega) hown.out)
      have hBx := Lib.hid ((hb.out.setCell (p := ⟨gr, pk (mvs l n) 24, none⟩) (by show w.heap.size + 2 ≤ gr; omega) (iv (at0 (mvs l n) (pk (mvs l n) 24) - 1))).setCell (p := ⟨gr, lo (mvs l n) 24, none⟩) (by show w.heap.size + 2 ≤ gr; omega) (iv (at0 (mvs l n) (lo (mvs l n) 24) + 1)))
      clear hat hce hfr hown hb hG
      generalize at0 (mvs l n) (pk (mvs l n) 24) = P at *
      generalize at0 (mvs l n) (lo (mvs l n) 24) = Q at *
      generalize pk (mvs l n) 24 = I at *
      generalize lo (mvs l n) 24 = J at *
      go_wp2_with (first
        | (go_at_call 59; refine HMx.out.mono ?_; rintro e wx ⟨rfl, hw⟩; replace hw := hw.symm; subst hw)
        | (go_at_call 64; refine HMn.out.mono ?_; rintro e wx ⟨rfl, hw⟩; replace hw := hw.symm; subst hw)
        | (go_at_call_of 60 (Value.int IntKind.i64 P); refine HI1.out.mono ?_; rintro e wx ⟨rfl, hw⟩; replace hw := hw.symm; subst hw)
        | (go_at_call_of 60 (Value.int IntKind.i64 Q); refine HI2.out.mono ?_; rintro e wx ⟨rfl, hw⟩; replace hw := hw.symm; subst hw))
      go_roundg (N - (n + 1))
      case rel => exact ⟨n + 1, by omega, by omega, hnx, hBx⟩
      case measure => omega
    · have e : n = N := by omega
      subst e
      have hle := HN1.out
      rw [HFL.out] at hown
      obtain ⟨c0, c1, f1, hz3⟩ := tB.parts hb.out
      have hlen : (flL l m).length = 24 := by rw [← HFL.out]; exact hG.1
      generalize at0 (mvs l n) (pk (mvs l n) 24) = P at *
      go_wp2_with (go_at_call 59; refine HMx.out.mono ?_; rintro e wx ⟨rfl, hw⟩; replace hw := hw.symm; subst hw)
      refine bodyPost_ret (v := .tuple #[dv (some ⟨gr, 0, none⟩) (flL l m).length capr, .bool true]) (by simp [results, Try.results23, go_sem, c1, hlen]) rfl ⟨gr, capr, rfl, by omega, ?_, (under2 hb.out).setCell (p := ⟨w.heap.size + 1, 0, none⟩) (by show w.heap.size ≤ w.heap.size + 1; omega) _⟩
      rw [hlen]
      exact own_lower (ownsRow_setCell_below hown.out (show w.heap.size + 1 < w.heap.size + 2 by omega) _) (by omega)
end Go.Proofs.Ytkgkeohnnpkahaa.S6
