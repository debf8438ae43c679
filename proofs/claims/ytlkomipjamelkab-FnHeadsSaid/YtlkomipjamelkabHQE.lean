/- Both sides of HeadsOf, HeadNeeded and WeakNodes at once, and what the law says of them: contracts. Conditions: each theorem's own premises. -/
import Derived.Test.YtlkomipjamelkabHQB
import Derived.Test.YtlkomipjamelkabHQA
import Derived.Test.YtlkomipjamelkabHQD
namespace Go.Proofs.Ytlkomipjamelkab.S2
open Go.RowKit P2

def stF (ps : List Pp) (fl : List Int) (k : Nat) : Int := absI (lossI (pAt ps k) (lA fl k))
def stL (ps : List Pp) (fl : List Int) : List Int := (List.range ps.length).map (stF ps fl)
theorem stL_len (ps : List Pp) (fl : List Int) : (stL ps fl).length = ps.length := by simp [stL]
theorem stL_at {ps : List Pp} {fl : List Int} {k : Nat} (h : k < ps.length) : lA (stL ps fl) k = stF ps fl k := by simp [lA, stL, List.getD, h]
theorem stF_in {n : Int} {ps : List Pp} (hg : P2.Good n ps) {fl : List Int} (hr : allR (-8000) 8000 fl = true) (hl : fl.length = ps.length) {k : Nat} (hk : k < fl.length) : 0 ≤ stF ps fl k ∧ stF ps fl k ≤ 576000000 := by
  have h2 := allR_at hr hk
  have h3 := (loss_in (good_pp hg (pAt_mem (show k < ps.length by omega))) h2.1 h2.2).2
  exact ⟨absI_nn _, absI_le (by unfold lA; omega) (by unfold lA; omega)⟩
theorem fst_same {f g : Nat → Int} : ∀ k, (∀ j, j < k → f j = g j) → fstG f k = fstG g k
  | 0, _ => rfl
  | k + 1, h => by
    have e := fst_same k (fun j hj => h j (by omega))
    rw [fstG, fstG, e]
    by_cases h0 : k = 0
    · subst h0; simp [fstG]
    · rw [h _ (show fstG g k < k + 1 by have := fstG_lt g k (by omega); omega), h k (by omega)]
/-- The place of the greatest. -/
def stI (ps : List Pp) (fl : List Int) : Nat := fstG (stF ps fl) ps.length
theorem stI_list (ps : List Pp) (fl : List Int) : fstG (lA (stL ps fl)) (stL ps fl).length = stI ps fl := by
  rw [stL_len]
  exact fst_same _ fun j hj => stL_at hj
theorem stI_lt {ps : List Pp} (fl : List Int) (h : 0 < ps.length) : stI ps fl < ps.length := fstG_lt _ _ h

/-! ### The losses of all pipes -/



end Go.Proofs.Ytlkomipjamelkab.S2

namespace Go.Proofs.Ytlkomipjamelkab.S2
open Go.RowKit P2

/-- Differences of two lists, place by place. -/
def psL (L H : List Int) : List Int := (List.range L.length).map fun i => lA L i - lA H i
theorem psL_len (L H : List Int) : (psL L H).length = L.length := by simp [psL]
theorem psL_at {L H : List Int} {i : Nat} (h : i < L.length) : lA (psL L H) i = lA L i - lA H i := by simp [psL, lA, List.getD, h]
noncomputable def prL (N : Nat) (ps : List Pp) (s : Nat) (dm : List Int) (h : Int) (hs : List Int) : List Int := psL (hdL N ps s dm h) hs
theorem prL_len (N : Nat) (ps : List Pp) (s : Nat) (dm : List Int) (h : Int) (hs : List Int) : (prL N ps s dm h hs).length = N := by unfold prL; rw [psL_len, hdL_len]
theorem prL_at {N : Nat} {ps : List Pp} {s : Nat} {dm : List Int} {h : Int} {hs : List Int} {i : Nat} (hi : i < N) : lA (prL N ps s dm h hs) i = hdF N ps s dm h i - lA hs i := by
  unfold prL
  rw [psL_at (by rw [hdL_len]; exact hi)]
  have := hdL_at (N := N) (ps := ps) (s := s) (dm := dm) (h := h) hi
  unfold lA
  rw [this]
/-- Heights of a network. -/
def hsB (n : Int) (hs : List Int) : Bool := amtB hs n 0 100000000000
theorem hsB_of {n : Int} {hs : List Int} (h : hsB n hs = true) : (hs.length : Int) = n ∧ allR 0 100000000000 hs = true := amt_len h
theorem prc_any (x y : Int) (h1 : -1000000000000 ≤ x ∧ x ≤ 1000000000000) (h2 : -1000000000000 ≤ y ∧ y ≤ 1000000000000) (w : World) :
    Calls Try.prog 139 #[.int .i64 x, .int .i64 y] w fun e w' => e = .returned (.int .i64 (x - y)) ∧ Below w.heap.size w w' := by
  have wS : IntKind.i64.wrap (x - y) = x - y := w64 _ (by omega)
  go_enter Try.func139, Try.ntmps139
  go_wp2
  go_ret
  exact ⟨rfl, Below.refl _ _⟩

set_option maxHeartbeats 2000000 in
set_option maxRecDepth 100000 in
theorem prp_any (A : Option Addr) (cap : Nat) (L : List Int) (AH : Option Addr) (ch : Nat) (H : List Int) (w : World) (hL : IAt w A L) (hH : IAt w AH H) (hlen : H.length = L.length) (hl8 : L.length ≤ 8) (hbL : ∀ i, i < L.length → -1000000000000 ≤ lA L i ∧ lA L i ≤ 1000000000000) (hbH : ∀ i, i < L.length → -1000000000000 ≤ lA H i ∧ lA H i ≤ 1000000000000) :
    Calls Try.prog 112 #[.slice A L.length cap, .slice AH H.length ch, .func (.func 139) #[] #[]] w fun e w' => (∃ g, e = .returned (.slice (some ⟨g, 0, none⟩) L.length L.length) ∧ w.heap.size ≤ g ∧ IOwn w' w.heap.size (.slice (some ⟨g, 0, none⟩) L.length L.length) (psL L H)) ∧ Below w.heap.size w w' := by
  have HA := Lib.hid (fun w' (hb : Below w.heap.size w w') => hL.kept hb (Nat.le_refl _))
  have HI := Lib.hid (fun w' (hb : Below w.heap.size w w') => hH.kept hb (Nat.le_refl _))
  have HC := Lib.hid (fun k (hk : k < L.length) w' => prc_any (lA L k) (lA H k) (hbL k hk) (hbH k hk) w')
  have HL := Lib.hid hlen
  have HSL := Lib.hid (psL_len L H)
  have HSA := Lib.hid (fun k (hk : k < L.length) => psL_at (H := H) hk)
  have hmk := run_make_row' (P := Try.prog) 27 3 (.int .i64 0) 8 Try.underlying27 infoI rfl .i64 .i64 L.length (by omega) (by omega)
  have HO := made_row (psL L H) w (by rw [psL_len]; omega)
  have HF := Lib.hid (fiI_full (psL L H))
  rw [HSL.out] at HO HF
  clear hL hH hlen hbL hbH
  go_enter Try.func112, Try.ntmps112
  go_wp2
  clear hmk
  go_loopw [15] (fun i wr => ∃ k : Nat, k ≤ L.length ∧ i = .int .i64 k ∧ Hid (wr.ownsRow w.heap.size 3 1 (.slice (some ⟨w.heap.size, 0, none⟩) L.length L.length) L.length (fiI (psL L H) k)) ∧ Hid (Below w.heap.size w wr)) (fun i _ => L.length - (intOf i).toNat)
  case atStart => exact ⟨0, Nat.zero_le _, rfl, HO, Lib.hid ((Below.refl _ _).alloc (Nat.le_refl _) _)⟩
  case round =>
    obtain ⟨k, hk, rfl, hown, hB⟩ := hrel
    clear HO
    by_cases hlt : k < L.length
    · obtain ⟨b, off, hA, hbl, p0⟩ := (HA.out _ hB.out).at_ hlt
      subst hA
      have hkf : k < H.length := by rw [HL.out]; exact hlt
      obtain ⟨bb, of2, hA2, hbl2, q0⟩ := (HI.out _ hB.out).at_ hkf
      subst hA2
      have hk0 : (0 : Int) ≤ (k : Int) := by omega
      have hkn : (k : Int) < (L.length : Int) := by omega
      have hknf : (k : Int) < (H.length : Int) := by omega
      have HLO := Lib.hid (HC.out k hlt)
      have hgx := (hown.out.lt w.heap.size rfl).2
      have hfs := fiI_set (psL L H) k (by rw [HSL.out]; exact hlt)
      have hat := HSA.out k hlt
      obtain ⟨uo, huo⟩ := fiI_has (psL L H) k (by rw [HSL.out]; exact hlt)
      have HUO := Lib.hid huo
      unfold lA at hat HLO
      rw [hat] at hfs
      have HST := Lib.hid hfs
      clear hfs hat huo
      generalize L.getD k 0 = x at *
      generalize H.getD k 0 = y at *
      have hO2 := hown
      go_wp2_with (go_at_call 139; refine (HLO.out _).mono ?_; rintro e wq ⟨rfl, hbq⟩; refine Hid.out ?_)
      have hO3 := own_on hO2.out hbq
      have hcell := (hO3.cellAt k (by omega)).trans HUO.out
      have hfz := hO3.frozenAt k
      have hgq := (hO3.lt w.heap.size rfl).2
      have HB3 := Lib.hid (hB.out.trans (hbq.mono hB.out.size))
      have hst := hO3.stored k (iv (x - y))
      rw [HST.out] at hst
      have HRL := Lib.hid hst.1
      clear hO3 hbq hst
      refine Lib.hid ?_
      go_wp2
      go_roundw
      case rel => exact ⟨k + 1, by omega, by go_num, HRL, Lib.hid (HB3.out.setCell (p := ⟨w.heap.size, k, none⟩) (Nat.le_refl _) _)⟩
      case measure => simp [intOf]; omega
    · have e : k = L.length := by omega
      subst e
      have hown2 := hown.out
      rw [HF.out] at hown2
      have H2 := Lib.hid hown2
      clear hown hown2
      go_wp2
      go_ret
      exact ⟨⟨_, rfl, Nat.le_refl _, by have := H2.out; unfold IOwn; rw [HSL.out]; exact this⟩, hB.out⟩

set_option maxHeartbeats 1000000 in
theorem pr_no1 (n : Int) (A : Option Addr) (cap : Nat) (ps : List Pp) (x : Int) (AD : Option Addr) (dc : Nat) (dm : List Int) (h : Int) (AH : Option Addr) (hc : Nat) (hs : List Int) (w : World) (hT : ∀ w', Below w.heap.size w w' → Calls Try.prog 21 #[nv n A ps.length cap, .int .i64 x, .slice AD dm.length dc, .int .i64 h] w' (GivesI w' [] false)) :
    Calls Try.prog 83 #[nv n A ps.length cap, .int .i64 x, .slice AD dm.length dc, .int .i64 h, .slice AH hs.length hc] w (GivesI w [] false) := by
  have H := Lib.hid hT
  clear hT
  go_enter Try.func83, Try.ntmps83
  go_wp2_with (go_at_call 21; refine (H.out _ ((Below.refl _ _).alloc (Nat.le_refl _) _)).mono ?_; rintro e w1 ⟨g, c, rfl, hg, hO, hb1⟩)
  go_ret2
  exact gives_none (below_alloc_call hb1)
set_option maxHeartbeats 1000000 in
theorem pr_no2 (n : Int) (A : Option Addr) (cap : Nat) (ps : List Pp) (x : Int) (AD : Option Addr) (dc : Nat) (dm : List Int) (h : Int) (AH : Option Addr) (hc : Nat) (hs : List Int) (L : List Int) (w : World) (hi : IAt w AH hs) (hil : hs.length ≤ 1048576) (hv : hsB n hs = false) (hT : ∀ w', Below w.heap.size w w' → Calls Try.prog 21 #[nv n A ps.length cap, .int .i64 x, .slice AD dm.length dc, .int .i64 h] w' (GivesI w' L true)) :
    Calls Try.prog 83 #[nv n A ps.length cap, .int .i64 x, .slice AD dm.length dc, .int .i64 h, .slice AH hs.length hc] w (GivesI w [] false) := by
  have H := Lib.hid hT
  by_cases hl : (hs.length : Int) = n
  · have hv2 : allR 0 100000000000 hs = false := by
      unfold hsB amtB at hv
      rw [decide_eq_true hl, Bool.true_and] at hv
      exact hv
    have H2 := Lib.hid (fun w' (hb : Below w.heap.size w w') => ahd_v hv2 AH hc w' (hi.kept hb (Nat.le_refl _)) hil)
    have g0 : ((hs.length : Int) != n) = false := by simp [hl]
    clear hT hi hv hv2 hl
    go_enter Try.func83, Try.ntmps83
    go_wp2_with (first
      | (go_at_call 21; refine (H.out _ ((Below.refl _ _).alloc (Nat.le_refl _) _)).mono ?_; rintro e w1 ⟨g, c, rfl, hg, hO, hb1⟩; have HX1 := Lib.hid (show Below (w.heap.size + 1) (w.alloc (nb n A ps.length cap)) w1 by simpa using hb1); obtain ⟨b0, b1⟩ := box2 HX1.out; have hy1 := box_lt HX1.out; clear hO hb1)
      | (go_at_call 75; refine (H2.out _ (below_box HX1.out)).mono ?_; rintro e w2 ⟨rfl, hb2⟩))
    go_ret2
    exact gives_none ((below_box HX1.out).trans (hb2.mono (below_box HX1.out).size))
  · have g0 : ((hs.length : Int) != n) = true := by simp [hl]
    clear hT hi hv hl
    go_enter Try.func83, Try.ntmps83
    go_wp2_with (go_at_call 21; refine (H.out _ ((Below.refl _ _).alloc (Nat.le_refl _) _)).mono ?_; rintro e w1 ⟨g, c, rfl, hg, hO, hb1⟩; have HX1 := Lib.hid (show Below (w.heap.size + 1) (w.alloc (nb n A ps.length cap)) w1 by simpa using hb1); obtain ⟨b0, b1⟩ := box2 HX1.out; have hy1 := box_lt HX1.out; clear hO hb1)
    go_ret2
    exact gives_none (below_box HX1.out)
set_option maxHeartbeats 1000000 in
theorem pr_yes (N s : Nat) (A : Option Addr) (cap : Nat) (ps : List Pp) (AD : Option Addr) (dc : Nat) (dm : List Int) (h : Int) (AH : Option Addr) (hc : Nat) (hs : List Int) (w : World) (hp : PAt w A ps) (hm : ps.length ≤ maxLen) (hd : IAt w AD dm) (hdl : dm.length ≤ 1048576) (hi : IAt w AH hs) (hn : nodeB N ps s = true) (ht : treeB N ps = true) (hv : demB N ps dm = true) (hh : hdR h = true) (hvs : hsB N hs = true) :
    Calls Try.prog 83 #[nv N A ps.length cap, .int .i64 (s : Int), .slice AD dm.length dc, .int .i64 h, .slice AH hs.length hc] w (GivesI w (prL N ps s dm h hs) true) := by
  obtain ⟨hg, hdn, hr⟩ := demB_of hv
  obtain ⟨_, hs1, hs2⟩ := nodeB_of hn
  have hN8 := hg.2.1
  obtain ⟨hh1, hh2⟩ := hdR_of hh
  obtain ⟨hl, hv2⟩ := hsB_of hvs
  have H := Lib.hid (fun w' (hb : Below w.heap.size w w') => hd_yes N s A cap ps AD dc dm h w' (hp.kept hb (Nat.le_refl _)) hm (hd.kept hb (Nat.le_refl _)) hdl hn ht hv hh)
  have H2 := Lib.hid (fun w' (hb : Below w.heap.size w w') => ahd_v hv2 AH hc w' (hi.kept hb (Nat.le_refl _)) (by omega))
  have H3 := Lib.hid (fun g c w' (hb : Below w.heap.size w w') (hL : IAt w' (some ⟨g, 0, none⟩) (hdL N ps s dm h)) => prp_any (some ⟨g, 0, none⟩) c (hdL N ps s dm h) AH hc hs w' hL (hi.kept hb (Nat.le_refl _)) (by rw [hdL_len]; omega) (by rw [hdL_len]; omega) (fun i hi => by
    rw [hdL_len] at hi
    have h1 := hdF_in hg ht hr hdn (s := s) (by omega) (by omega) hh1 hh2 hi
    have h2 := hdL_at (N := N) (ps := ps) (s := s) (dm := dm) (h := h) hi
    unfold lA
    rw [h2]; omega) (fun i hi => by
    rw [hdL_len] at hi
    have h1 := allR_at hv2 (i := i) (by omega)
    unfold lA; omega))
  have HLN := Lib.hid (hdL_len N ps s dm h)
  have HPL := Lib.hid (show psL (hdL N ps s dm h) hs = prL N ps s dm h hs from rfl)
  have HPN := Lib.hid (prL_len N ps s dm h hs)
  have g0 : ((hs.length : Int) != (N : Int)) = false := by simp [hl]
  rw [HPL.out] at H3
  clear hp hd hi hn ht hv hh hvs hv2 hg hdn hr hl
  generalize prL N ps s dm h hs = PL at *
  generalize hdL N ps s dm h = HLs at *
  go_enter Try.func83, Try.ntmps83
  go_wp2_with (first
    | (go_at_call 21; refine (H.out _ ((Below.refl _ _).alloc (Nat.le_refl _) _)).mono ?_; rintro e w1 ⟨g, c, rfl, hg, hO, hb1⟩; have HX1 := Lib.hid (show Below (w.heap.size + 1) (w.alloc (nb N A ps.length cap)) w1 by simpa using hb1); obtain ⟨b0, b1⟩ := box2 HX1.out; have hy1 := box_lt HX1.out; have HI1 := Lib.hid hO.iat; clear hO hb1)
    | (go_at_call 75; refine (H2.out _ (below_box HX1.out)).mono ?_; rintro e w2 ⟨rfl, hb2⟩; have HX2 := Lib.hid (on_call HX1.out hb2); have HI2 := Lib.hid (HI1.out.kept hb2 (Nat.le_refl _)))
    | (go_at_call 112; refine (H3.out g c _ (below_box HX2.out) HI2.out).mono ?_; rintro e w3 ⟨⟨g3, rfl, hg3, hO3⟩, hb3⟩))
  go_ret2
  have hz := (below_box HX2.out).size
  exact ⟨g3, HLs.length, by rw [HPN.out, ← HLN.out]; rfl, by omega, by have := own_lower (B' := w.heap.size) hO3 (by omega); rw [HLN.out] at this ⊢; rw [HPN.out]; exact this, (below_box HX2.out).trans (hb3.mono hz)⟩
end Go.Proofs.Ytlkomipjamelkab.S2

namespace Go.Proofs.Ytlkomipjamelkab.S2
open Go.RowKit P2

/-- The first k places have their differences. -/
def plK (L H : List Int) (k : Nat) : List Int := (List.range L.length).map fun i => if i < k then lA L i - lA H i else lA L i
theorem plK_len (L H : List Int) (k : Nat) : (plK L H k).length = L.length := by simp [plK]
theorem plK_zero (L H : List Int) : plK L H 0 = L := by
  apply List.ext_getElem (by simp [plK])
  intro i h1 h2
  simp [plK, lA, List.getD, h2]
theorem plK_full (L H : List Int) : plK L H L.length = psL L H := by
  unfold plK psL
  apply List.map_congr_left
  intro i hi
  rw [if_pos (List.mem_range.1 hi)]
theorem plK_at {L H : List Int} {k : Nat} (_h : k < L.length) : (plK L H k).getD k 0 = lA L k := by simp [plK, List.getD, _h]
theorem plK_set {L H : List Int} {k : Nat} (_h : k < L.length) : ((plK L H k).map iv).set k (iv (lA L k - lA H k)) = (plK L H (k + 1)).map iv := by
  rw [← List.map_set]
  congr 1
  apply List.ext_getElem (by simp [plK])
  intro i h1 h2
  have hi : i < L.length := by simpa [plK] using h2
  rw [List.getElem_set]
  simp only [plK, List.getElem_map, List.getElem_range]
  by_cases e : k = i
  · subst e; rw [if_pos rfl, if_pos (by omega)]
  · rw [if_neg e]
    by_cases e2 : i < k
    · rw [if_pos e2, if_pos (by omega)]
    · rw [if_neg e2, if_neg (by omega)]

set_option maxHeartbeats 1000000 in
theorem shs_any (n : Int) (A : Option Addr) (len cap : Nat) (AU : Option Addr) (cc : Nat) (l : List Int) (w : World) (h : IAt w AU l) (hl : l.length ≤ 1048576) :
    Calls Try.prog 85 #[nv n A len cap, .slice AU l.length cc] w fun e w' => e = .returned (.bool (hsB n l)) ∧ Below w.heap.size w w' := by
  have HA := Lib.hid (h.kept (show Below w.heap.size w (w.alloc (.cells #[.int .i64 n, .slice A len cap] 26)) from (Below.refl _ _).alloc (Nat.le_refl _) _) (Nat.le_refl _))
  clear h
  go_enter Try.func85, Try.ntmps85
  go_wp2
  go_loop [5] (fun i => ∃ k : Nat, k ≤ l.length ∧ i = .int .i64 (k : Int) ∧ Hid (∀ j, j < k → inR 0 100000000000 (l.getD j 0) = true)) (fun i => l.length - (intOf i).toNat)
  case atStart => exact ⟨0, Nat.zero_le _, rfl, Lib.hid (fun j hj => absurd hj (by omega))⟩
  case round =>
    obtain ⟨k, hk, rfl, hno⟩ := hrel
    by_cases hlt : k < l.length
    · obtain ⟨b, off, hA, hbl, h0⟩ := HA.out.at_ hlt
      subst hA
      have hk0 : (0 : Int) ≤ (k : Int) := by omega
      have hkn : (k : Int) < (l.length : Int) := by omega
      obtain ⟨v, hv⟩ : ∃ v, inR 0 100000000000 (l.getD k 0) = v := ⟨_, rfl⟩
      have HC := Lib.hid (fun w' => shd_v (x := l.getD k 0) hv w')
      cases v with
      | false =>
        have HR := Lib.hid (show hsB n l = false from by rw [hsB, amtB, allR_no hlt hv, Bool.and_false])
        clear hv hno
        generalize l.getD k 0 = y at *
        go_wp2_with (go_at_call 86; refine (HC.out _).mono ?_; rintro e w1 ⟨rfl, hw⟩; replace hw := hw.symm; subst hw)
        go_ret
        exact ⟨by rw [HR.out]; rfl, (Below.refl _ _).alloc (Nat.le_refl _) _⟩
      | true =>
        have hno2 := Lib.hid (inR_snoc hno.out hv)
        clear hv hno
        generalize l.getD k 0 = y at *
        go_wp2_with (go_at_call 86; refine (HC.out _).mono ?_; rintro e w1 ⟨rfl, hw⟩; replace hw := hw.symm; subst hw)
        go_round
        case rel => exact ⟨k + 1, by omega, by go_num, hno2⟩
        case measure => simp [intOf]; omega
    · have HALL := Lib.hid (show allR 0 100000000000 l = true from allR_mk (fun i hi => hno.out i (by omega)))
      by_cases he : (l.length : Int) = n
      · have g1 : ((l.length : Int) == n) = true := beq_iff_eq.2 he
        have HR := Lib.hid (show hsB n l = true from by rw [hsB, amtB, HALL.out]; simp [he])
        clear he
        go_wp2
        go_ret
        exact ⟨by rw [HR.out]; rfl, (Below.refl _ _).alloc (Nat.le_refl _) _⟩
      · have g1 : ((l.length : Int) == n) = false := beq_eq_false_iff_ne.2 he
        have HR := Lib.hid (show hsB n l = false from by rw [hsB, amtB, HALL.out]; simp [he])
        clear he
        go_wp2
        go_ret
        exact ⟨by rw [HR.out]; rfl, (Below.refl _ _).alloc (Nat.le_refl _) _⟩
theorem shs_v {n : Int} {l : List Int} {v : Bool} (hv : hsB n l = v) (A : Option Addr) (len cap : Nat) (AU : Option Addr) (cc : Nat) (w : World) (h : IAt w AU l) (hl : l.length ≤ 1048576) :
    Calls Try.prog 85 #[nv n A len cap, .slice AU l.length cc] w fun e w' => e = .returned (.bool v) ∧ Below w.heap.size w w' := by
  rw [← hv]; exact shs_any n A len cap AU cc l w h hl

set_option maxHeartbeats 2000000 in
set_option maxRecDepth 100000 in
theorem sprs_any (N s : Nat) (A : Option Addr) (cap : Nat) (ps : List Pp) (AD : Option Addr) (dc : Nat) (dm : List Int) (h : Int) (AH : Option Addr) (hc : Nat) (hs : List Int) (w : World) (hp : PAt w A ps) (hcap : ps.length ≤ cap) (hd : IAt w AD dm) (hi : IAt w AH hs) (hn : nodeB N ps s = true) (ht : treeB N ps = true) (hv : demB N ps dm = true) (hh : hdR h = true) (hvs : hsB N hs = true) :
    Calls Try.prog 87 #[nv N A ps.length cap, .int .i64 (s : Int), .slice AD dm.length dc, .int .i64 h, .slice AH hs.length hc] w (GivesL w (prL N ps s dm h hs)) := by
  obtain ⟨hg, hdn, hr⟩ := demB_of hv
  obtain ⟨_, hs1, hs2⟩ := nodeB_of hn
  have hN8 := hg.2.1
  obtain ⟨hh1, hh2⟩ := hdR_of hh
  obtain ⟨hl, hv2⟩ := hsB_of hvs
  have H := Lib.hid (fun w' (hb : Below w.heap.size w w') => shds_any N s A cap ps AD dc dm h w' (hp.kept hb (Nat.le_refl _)) hcap (hd.kept hb (Nat.le_refl _)) hn ht hv hh)
  have HI := Lib.hid (fun w' (hb : Below w.heap.size w w') => hi.kept hb (Nat.le_refl _))
  have HLN := hdL_len N ps s dm h
  have HBL := Lib.hid (fun i (hi : i < N) => (show -5000000000 ≤ lA (hdL N ps s dm h) i ∧ lA (hdL N ps s dm h) i ≤ 105000000000 from by
    have h1 := hdF_in hg ht hr hdn (s := s) (by omega) (by omega) hh1 hh2 hi
    have h2 := hdL_at (N := N) (ps := ps) (s := s) (dm := dm) (h := h) hi
    unfold lA
    rw [h2]; omega))
  have HBH := Lib.hid (fun i (hi : i < N) => (show 0 ≤ lA hs i ∧ lA hs i ≤ 100000000000 from allR_at hv2 (i := i) (by omega)))
  have HPL := Lib.hid (show plK (hdL N ps s dm h) hs N = prL N ps s dm h hs from by have := plK_full (hdL N ps s dm h) hs; rw [HLN] at this; exact this)
  have HPN := Lib.hid (fun k => (show (plK (hdL N ps s dm h) hs k).length = N by rw [plK_len]; exact HLN))
  have HP0 := Lib.hid (plK_zero (hdL N ps s dm h) hs)
  have HPA := Lib.hid (fun k (hk : k < N) => plK_at (L := hdL N ps s dm h) (H := hs) (k := k) (by omega))
  have HPS := Lib.hid (fun k (hk : k < N) => plK_set (L := hdL N ps s dm h) (H := hs) (k := k) (by omega))
  have HLN2 := Lib.hid HLN
  have HSN := Lib.hid (show hs.length = N by omega)
  clear hp hd hi hn ht hv hh hvs hv2 hg hdn hr hl HLN hcap
  generalize prL N ps s dm h hs = PL at *
  generalize hdL N ps s dm h = HL at *
  go_enter Try.func87, Try.ntmps87
  go_wp2_with (go_at_call 77; refine (H.out _ ((Below.refl _ _).alloc (Nat.le_refl _) _)).mono ?_; rintro e w1 ⟨g, c, rfl, hg1, hO, hb1⟩; refine Hid.out ?_)
  have HB1 := Lib.hid (below_alloc_call hb1)
  have hgB : w.heap.size < g := by simp at hg1; omega
  have HO1 := Lib.hid (show w1.ownsRow w.heap.size 3 1 (.slice (some ⟨g, 0, none⟩) N c) N ((plK HL hs 0).map iv) from by
    have := own_lower (B' := w.heap.size) hO (by simp)
    unfold IOwn at this
    rw [HLN2.out] at this
    rw [HP0.out]
    exact this)
  clear hb1 hO hg1
  rw [HLN2.out]
  refine Lib.hid ?_
  go_wp2
  go_loopw [12] (fun i wr => ∃ k : Nat, k ≤ N ∧ i = .int .i64 k ∧ Hid (wr.ownsRow w.heap.size 3 1 (.slice (some ⟨g, 0, none⟩) N c) N ((plK HL hs k).map iv)) ∧ Hid (Below w.heap.size w wr)) (fun i _ => N - (intOf i).toNat)
  case atStart => exact ⟨0, Nat.zero_le _, rfl, HO1, HB1⟩
  case round =>
    clear HO1 HB1
    obtain ⟨k, hk, rfl, hown, hB⟩ := hrel
    by_cases hlt : k < N
    · have hkh : k < hs.length := by rw [HSN.out]; exact hlt
      obtain ⟨bb, of2, hA2, hbl2, q0⟩ := (HI.out _ hB.out).at_ hkh
      subst hA2
      have hk0 : (0 : Int) ≤ (k : Int) := by omega
      have hkn : (k : Int) < (N : Int) := by omega
      have hknf : (k : Int) < (hs.length : Int) := by omega
      have hgl := (hown.out.lt g rfl).2
      have hpn := HPN.out k
      have hcell := (hown.out.cellAt k (by omega)).trans (show ((plK HL hs k).map iv)[k]? = some (iv (lA HL k)) by
        rw [List.getElem?_map]
        have h1 := HPA.out k hlt
        have h2 : k < (plK HL hs k).length := by omega
        simp only [List.getD, List.getElem?_eq_getElem h2, Option.getD_some] at h1
        rw [List.getElem?_eq_getElem h2, h1]; rfl)
      have hfz := hown.out.frozenAt k
      have hst := hown.out.stored k (iv (lA HL k - lA hs k))
      rw [HPS.out k hlt] at hst
      have HRL := Lib.hid hst.1
      have hb1 := HBL.out k hlt
      have hb2 := HBH.out k hlt
      have hla : lA hs k = hs.getD k 0 := rfl
      rw [← hla] at q0
      clear hst hla
      generalize lA HL k = x at *
      generalize lA hs k = y at *
      have wS : IntKind.i64.wrap (x - y) = x - y := w64 _ (by omega)
      go_wp2
      go_region_with (fail)
      all_goals
        go_wp2
        go_roundw
        · exact ⟨k + 1, by omega, by go_num, HRL, Lib.hid (hB.out.setCell (p := ⟨g, k, none⟩) (by show w.heap.size ≤ g; omega) _).drew⟩
        · simp [intOf]; omega
    · have e : k = N := by omega
      subst e
      have hown2 := hown.out
      rw [HPL.out] at hown2
      have HW := Lib.hid hown2
      have hpl := HPN.out k
      rw [HPL.out] at hpl
      have HPLN := Lib.hid hpl
      clear hown hown2 hpl
      go_wp2
      go_ret
      exact ⟨g, c, by rw [HPLN.out]; rfl, by omega, by unfold IOwn; rw [HPLN.out]; exact HW.out, hB.out⟩

end Go.Proofs.Ytlkomipjamelkab.S2

namespace Go.Proofs.Ytlkomipjamelkab.S2
open Go.RowKit P2
theorem pr_bad (n : Int) (A : Option Addr) (cap : Nat) (ps : List Pp) (x : Int) (AD : Option Addr) (dc : Nat) (dm : List Int) (h : Int) (AH : Option Addr) (hc : Nat) (hs : List Int) (w : World) (hp : PAt w A ps) (hm : ps.length ≤ maxLen) (hd : IAt w AD dm) (hdl : dm.length ≤ 1048576) (hi : IAt w AH hs) (hil : hs.length ≤ 1048576) (hv : askH n ps x dm h = false ∨ hsB n hs = false) :
    Calls Try.prog 83 #[nv n A ps.length cap, .int .i64 x, .slice AD dm.length dc, .int .i64 h, .slice AH hs.length hc] w (GivesI w [] false) := by
  cases hv1 : askH n ps x dm h with
  | false => exact pr_no1 n A cap ps x AD dc dm h AH hc hs w (fun w' hb => hd_bad n A cap ps x AD dc dm h w' (hp.kept hb (Nat.le_refl _)) hm (hd.kept hb (Nat.le_refl _)) hdl hv1)
  | true =>
    have hv2 : hsB n hs = false := by
      rcases hv with h | h
      · exact absurd (h.symm.trans hv1) (by simp)
      · exact h
    obtain ⟨N, X, rfl, rfl, h1, h2, h3, h4⟩ := askH_of hv1
    exact pr_no2 N A cap ps X AD dc dm h AH hc hs _ w hi hil hv2 (fun w' hb => hd_yes N X A cap ps AD dc dm h w' (hp.kept hb (Nat.le_refl _)) hm (hd.kept hb (Nat.le_refl _)) hdl h1 h3 h2 h4)
end Go.Proofs.Ytlkomipjamelkab.S2

namespace Go.Proofs.Ytlkomipjamelkab.S2
open Go.RowKit P2

/-- The places among the first k with less than is needed. -/
def wkTo (L : List Int) (need : Int) (k : Nat) : List Int := ((List.range k).filter fun i => decide (lA L i < need)).map fun i : Nat => (i : Int) + 1
theorem wkTo_yes {L : List Int} {need : Int} {k : Nat} (h : lA L k < need) : wkTo L need (k + 1) = wkTo L need k ++ [(k : Int) + 1] := by
  unfold wkTo; rw [List.range_succ, List.filter_append, List.map_append]; simp [h]
theorem wkTo_no {L : List Int} {need : Int} {k : Nat} (h : ¬ lA L k < need) : wkTo L need (k + 1) = wkTo L need k := by
  unfold wkTo; rw [List.range_succ, List.filter_append, List.map_append]; simp [h]
theorem wkTo_len (L : List Int) (need : Int) (k : Nat) : (wkTo L need k).length ≤ k := by
  unfold wkTo; rw [List.length_map]; exact Nat.le_trans (List.length_filter_le _ _) (by simp)
/-- What is asked for pressures. -/
noncomputable def askP (n : Int) (ps : List Pp) (x : Int) (dm : List Int) (h : Int) (hs : List Int) : Bool := askH n ps x dm h && hsB n hs
theorem askP_of {n : Int} {ps : List Pp} {x : Int} {dm : List Int} {h : Int} {hs : List Int} (hv : askP n ps x dm h hs = true) : askH n ps x dm h = true ∧ hsB n hs = true := by
  unfold askP at hv; rwa [Bool.and_eq_true] at hv
theorem askP_no {n : Int} {ps : List Pp} {x : Int} {dm : List Int} {h : Int} {hs : List Int} (hv : askP n ps x dm h hs = false) : askH n ps x dm h = false ∨ hsB n hs = false := by
  unfold askP at hv; rwa [Bool.and_eq_false_iff] at hv

theorem IAt.farO {w w' : World} {g o : Nat} {r : Option Nat} {l : List Int} (h : IAt w (some ⟨g, o, none⟩) l) (hb : w.grownBy w' r) (hg : r ≠ some g) : IAt w' (some ⟨g, o, none⟩) l := by
  rcases h with h | ⟨b, off, hA, hlt, h⟩
  · exact .inl h
  · simp only [Option.some.injEq, Addr.mk.injEq, and_true] at hA
    obtain ⟨rfl, rfl⟩ := hA
    exact .inr ⟨g, o, rfl, Nat.lt_of_lt_of_le hlt hb.size, fun i hi => (World.cell?_of_block (hb.block g hlt (fun e => hg e.symm))).trans (h i hi)⟩
set_option maxHeartbeats 1000000 in
theorem wk_no1 (n : Int) (A : Option Addr) (cap : Nat) (ps : List Pp) (x : Int) (AD : Option Addr) (dc : Nat) (dm : List Int) (h : Int) (AH : Option Addr) (hc : Nat) (hs : List Int) (need : Int) (w : World) (hT : ∀ w', Below w.heap.size w w' → Calls Try.prog 83 #[nv n A ps.length cap, .int .i64 x, .slice AD dm.length dc, .int .i64 h, .slice AH hs.length hc] w' (GivesI w' [] false)) :
    Calls Try.prog 28 #[nv n A ps.length cap, .int .i64 x, .slice AD dm.length dc, .int .i64 h, .slice AH hs.length hc, .int .i64 need] w (GivesI w [] false) := by
  have H := Lib.hid hT
  clear hT
  go_enter Try.func28, Try.ntmps28
  go_wp2_with (go_at_call 83; refine (H.out _ ((Below.refl _ _).alloc (Nat.le_refl _) _)).mono ?_; rintro e w1 ⟨g, c, rfl, hg, hO, hb1⟩)
  go_ret2
  exact gives_none (below_alloc_call hb1)
set_option maxHeartbeats 1000000 in
theorem wk_no2 (n : Int) (A : Option Addr) (cap : Nat) (ps : List Pp) (x : Int) (AD : Option Addr) (dc : Nat) (dm : List Int) (h : Int) (AH : Option Addr) (hc : Nat) (hs : List Int) (need : Int) (L : List Int) (w : World) (hv : hdR need = false) (hT : ∀ w', Below w.heap.size w w' → Calls Try.prog 83 #[nv n A ps.length cap, .int .i64 x, .slice AD dm.length dc, .int .i64 h, .slice AH hs.length hc] w' (GivesI w' L true)) :
    Calls Try.prog 28 #[nv n A ps.length cap, .int .i64 x, .slice AD dm.length dc, .int .i64 h, .slice AH hs.length hc, .int .i64 need] w (GivesI w [] false) := by
  have H := Lib.hid hT
  have H2 := Lib.hid (fun w' => ahd_one hv w')
  clear hT hv
  go_enter Try.func28, Try.ntmps28
  go_wp2_with (first
    | (go_at_call 83; refine (H.out _ ((Below.refl _ _).alloc (Nat.le_refl _) _)).mono ?_; rintro e w1 ⟨g, c, rfl, hg, hO, hb1⟩; have hB1 := Lib.hid (below_alloc_call hb1); clear hO hb1)
    | (go_at_call 75; refine (H2.out _).mono ?_; rintro e w2 ⟨rfl, hb2⟩))
  go_ret2
  exact gives_none (hB1.out.trans (hb2.mono hB1.out.size))
set_option maxHeartbeats 2000000 in
set_option maxRecDepth 100000 in
theorem wk_yes (n : Int) (A : Option Addr) (cap : Nat) (ps : List Pp) (x : Int) (AD : Option Addr) (dc : Nat) (dm : List Int) (h : Int) (AH : Option Addr) (hc : Nat) (hs : List Int) (need : Int) (L : List Int) (w : World) (hL8 : L.length ≤ 8) (hv : hdR need = true) (hT : ∀ w', Below w.heap.size w w' → Calls Try.prog 83 #[nv n A ps.length cap, .int .i64 x, .slice AD dm.length dc, .int .i64 h, .slice AH hs.length hc] w' (GivesI w' L true)) :
    Calls Try.prog 28 #[nv n A ps.length cap, .int .i64 x, .slice AD dm.length dc, .int .i64 h, .slice AH hs.length hc, .int .i64 need] w (GivesI w (wkTo L need L.length) true) := by
  have H := Lib.hid hT
  have H2 := Lib.hid (fun w' => ahd_one hv w')
  obtain ⟨i0, hi, hz0, hz1, hz2⟩ := info_parts infoI
  clear hT hv
  go_enter Try.func28, Try.ntmps28
  go_wp2_with (first
    | (go_at_call 83; refine (H.out _ ((Below.refl _ _).alloc (Nat.le_refl _) _)).mono ?_; rintro e w1 ⟨g, c, rfl, hg, hO, hb1⟩; have hB1 := Lib.hid (below_alloc_call hb1); have HI1 := Lib.hid hO.iat; clear hO hb1)
    | (go_at_call 75; refine (H2.out _).mono ?_; rintro e w2 ⟨rfl, hb2⟩; refine Hid.out ?_))
  have HB2 := Lib.hid (hB1.out.trans (hb2.mono hB1.out.size))
  have HI2 := Lib.hid (HI1.out.kept hb2 (Nat.le_refl _))
  have HIK := Lib.hid (fun w' (hb : Below w2.heap.size w2 w') => HI2.out.kept hb (Nat.le_refl _))
  have HO0 := Lib.hid (own_empty w2 w2.heap.size (Nat.le_refl _))
  have HB0 := Lib.hid (show Below w2.heap.size w2 (w2.alloc (.cells #[] 3)) from (Below.refl _ _).alloc (Nat.le_refl _) _)
  clear hb2 H H2 hB1 HI1 HI2
  refine Lib.hid ?_
  go_wp2
  go_loopw [16, 40] (fun v i wr => ∃ k : Nat, k ≤ L.length ∧ i = .int .i64 (k : Int) ∧ Hid (IOwn wr w2.heap.size v (wkTo L need k)) ∧ Hid (v ≠ .slice none 0 0) ∧ Hid (Below w2.heap.size w2 wr)) (fun _ i _ => L.length - (intOf i).toNat)
  case atStart => exact ⟨0, Nat.zero_le _, rfl, HO0, Lib.hid (by simp), HB0⟩
  case round =>
    clear HO0 HB0
    obtain ⟨k, hk, rfl, hown, hvn, hB⟩ := hrel
    by_cases hlt : k < L.length
    · obtain ⟨b, off, hA, hbl, p0⟩ := (HIK.out _ hB.out).at_ hlt
      simp only [Option.some.injEq, Addr.mk.injEq, and_true] at hA
      obtain ⟨rfl, rfl⟩ := hA
      rw [Nat.zero_add] at p0
      have hk0 : (0 : Int) ≤ (k : Int) := by omega
      have hkn : (k : Int) < (L.length : Int) := by omega
      have hla : L.getD k 0 = lA L k := rfl
      rw [hla] at p0
      have hdl := wkTo_len L need k
      clear hla
      by_cases hlow : lA L k < need
      · have hsn := Lib.hid (wkTo_yes hlow)
        have ho := hown.out
        unfold IOwn at ho
        generalize lA L k = y at *
        go_wp2_with (at_builtin; go_must (refine wpList_append_own _ rfl _ _ 27 rfl w2.heap.size 3 i0 (.int .i64 0) 1 8 Try.underlying27 hi hz0 hz1 hz2 rfl (by decide) _ _ _ rfl (ho.alloc _) ⟨wr.heap.size, 0, none⟩ 1 1 [iv ((k : Int) + 1)] rfl rfl (cell_one_new _ _ _) (by intro u hu; simp at hu; subst hu; rfl) (by unfold maxLen; omega) (by omega) (by have := hB.out.size; simp; omega) ?_); intro v' w7 hown' hgrow hnil)
        have hown3 := Lib.hid (IOwn.push hown')
        rw [← hsn.out] at hown3
        have hB7 := Lib.hid ((hB.out.alloc hB.out.size (.cells #[iv ((k : Int) + 1)] 3)).grown hgrow (by have := hB.out.size; simp; omega) (fun g hg => (ho.lt g hg).1))
        have hnil3 := Lib.hid (show v' ≠ .slice none 0 0 from fun e => by simp [e] at hnil)
        clear hown' hgrow hnil ho
        go_wp2
        go_roundw
        case rel => exact ⟨k + 1, by omega, by go_num, hown3, hnil3, hB7⟩
        case measure => simp [intOf]; omega
      · have hsn := Lib.hid (wkTo_no hlow)
        rw [← hsn.out] at hown
        generalize lA L k = y at *
        go_wp2
        go_roundw
        case rel => exact ⟨k + 1, by omega, by go_num, hown, hvn, hB⟩
        case measure => simp [intOf]; omega
    · have hkN : k = L.length := by omega
      have hown2 := hown.out
      rw [hkN] at hown2
      obtain ⟨g', capg, rfl, hg'⟩ := own_slice hown2 hvn.out
      have HO := Lib.hid hown2
      clear hkN hown2
      go_wp2
      go_ret2
      have := HB2.out.size
      exact ⟨g', capg, rfl, by omega, own_lower HO.out, HB2.out.trans (hB.out.mono HB2.out.size)⟩

/-! ### The model -/
set_option maxHeartbeats 2000000 in
theorem swk_no (n : Int) (A : Option Addr) (cap : Nat) (ps : List Pp) (x : Int) (AD : Option Addr) (dc : Nat) (dm : List Int) (h : Int) (AH : Option Addr) (hc : Nat) (hs : List Int) (need : Int) (w : World) (hp : PAt w A ps) (hm : ps.length ≤ maxLen) (hd : IAt w AD dm) (hdl : dm.length ≤ 1048576) (hi : IAt w AH hs) (hil : hs.length ≤ 1048576) (hv : askP n ps x dm h hs = false ∨ hdR need = false) :
    Calls Try.prog 30 #[nv n A ps.length cap, .int .i64 x, .slice AD dm.length dc, .int .i64 h, .slice AH hs.length hc, .int .i64 need] w (GivesA w [] false) := by
  obtain ⟨v1, hv1⟩ : ∃ v, askH n ps x dm h = v := ⟨_, rfl⟩
  obtain ⟨v2, hv2⟩ : ∃ v, hsB n hs = v := ⟨_, rfl⟩
  have H := Lib.hid (fun w' (hb : Below w.heap.size w w') => ask_v hv1 A cap AD dc w' (hp.kept hb (Nat.le_refl _)) hm (hd.kept hb (Nat.le_refl _)) hdl)
  have H2 := Lib.hid (fun w' (hb : Below w.heap.size w w') => shs_v hv2 A ps.length cap AH hc w' (hi.kept hb (Nat.le_refl _)) hil)
  have HV := Lib.hid (show v1 = true → v2 = true → hdR need = false from fun a b => by
    rcases hv with h | h
    · unfold askP at h; rw [hv1, hv2, a, b] at h; cases h
    · exact h)
  have HW0 := Lib.hid (show Below w.heap.size w ((w.alloc (nb n A ps.length cap)).alloc (.cells #[] 3)) from ((Below.refl _ _).alloc (Nat.le_refl _) _).alloc (by simp) _)
  have HB3 := Lib.hid (fun w1 (hb : Below ((w.alloc (nb n A ps.length cap)).alloc (.cells #[] 3)).heap.size ((w.alloc (nb n A ps.length cap)).alloc (.cells #[] 3)) w1) => (show Below (w.heap.size + 1) (w.alloc (nb n A ps.length cap)) w1 ∧ w.heap.size + 1 < w1.heap.size from ⟨((Below.refl _ _).alloc (by simp) _).trans (hb.mono (by simp)), by have := hb.size; simp at this; omega⟩))
  have HE := Lib.hid (fun w1 (hb : Below w.heap.size w w1) (hl : w.heap.size + 1 < w1.heap.size) => (show GivesA w [] false (.returned (.tuple #[.slice (some ⟨w.heap.size + 1, 0, none⟩) 0 0, .bool false])) w1 from ⟨_, 0, 0, rfl, by omega, .inl rfl, hb, hl⟩))
  clear hp hd hi hv hv1 hv2
  cases v1 with
  | false =>
    go_enter Try.func30, Try.ntmps30
    go_wp2_with (go_at_call 76; refine (H.out _ HW0.out).mono ?_; rintro e w1 ⟨rfl, hb1⟩; obtain ⟨hX1, hl1⟩ := HB3.out _ hb1)
    go_ret2
    exact HE.out _ (below_box hX1) hl1
  | true =>
    cases v2 with
    | false =>
      go_enter Try.func30, Try.ntmps30
      go_wp2_with (first
        | (go_at_call 76; refine (H.out _ HW0.out).mono ?_; rintro e w1 ⟨rfl, hb1⟩; obtain ⟨hX1, hl1⟩ := HB3.out _ hb1; have HX1 := Lib.hid hX1; clear hX1 hb1; obtain ⟨b0, b1⟩ := box2 HX1.out; have hy1 := box_lt HX1.out)
        | (go_at_call 85; refine (H2.out _ (below_box HX1.out)).mono ?_; rintro e w2 ⟨rfl, hb2⟩))
      go_ret2
      exact HE.out _ ((below_box HX1.out).trans (hb2.mono (below_box HX1.out).size)) (by have := hb2.size; omega)
    | true =>
      have H3 := Lib.hid (fun w' => shd_v (HV.out rfl rfl) w')
      go_enter Try.func30, Try.ntmps30
      go_wp2_with (first
        | (go_at_call 76; refine (H.out _ HW0.out).mono ?_; rintro e w1 ⟨rfl, hb1⟩; obtain ⟨hX1, hl1⟩ := HB3.out _ hb1; have HX1 := Lib.hid hX1; clear hX1 hb1; obtain ⟨b0, b1⟩ := box2 HX1.out; have hy1 := box_lt HX1.out)
        | (go_at_call 85; refine (H2.out _ (below_box HX1.out)).mono ?_; rintro e w2 ⟨rfl, hb2⟩)
        | (go_at_call 86; refine (H3.out _).mono ?_; rintro e w3 ⟨rfl, hw⟩; replace hw := hw.symm; subst hw))
      go_ret2
      exact HE.out _ ((below_box HX1.out).trans (hb2.mono (below_box HX1.out).size)) (by have := hb2.size; omega)

set_option maxHeartbeats 2000000 in
set_option maxRecDepth 100000 in
theorem swk_yes (N s : Nat) (A : Option Addr) (cap : Nat) (ps : List Pp) (AD : Option Addr) (dc : Nat) (dm : List Int) (h : Int) (AH : Option Addr) (hc : Nat) (hs : List Int) (need : Int) (w : World) (hp : PAt w A ps) (hm : ps.length ≤ maxLen) (hcap : ps.length ≤ cap) (hd : IAt w AD dm) (hdl : dm.length ≤ 1048576) (hi : IAt w AH hs) (hil : hs.length ≤ 1048576) (ha : askH N ps s dm h = true) (hn : nodeB N ps s = true) (ht : treeB N ps = true) (hv : demB N ps dm = true) (hh : hdR h = true) (hvs : hsB N hs = true) (hne : hdR need = true) :
    Calls Try.prog 30 #[nv N A ps.length cap, .int .i64 (s : Int), .slice AD dm.length dc, .int .i64 h, .slice AH hs.length hc, .int .i64 need] w (GivesA w (wkTo (prL N ps s dm h hs) need (prL N ps s dm h hs).length) true) := by
  have hN8 := (nodeB_of hn).1.2.1
  have H := Lib.hid (fun w' (hb : Below w.heap.size w w') => ask_v ha A cap AD dc w' (hp.kept hb (Nat.le_refl _)) hm (hd.kept hb (Nat.le_refl _)) hdl)
  have H2 := Lib.hid (fun w' (hb : Below w.heap.size w w') => shs_v hvs A ps.length cap AH hc w' (hi.kept hb (Nat.le_refl _)) hil)
  have H3 := Lib.hid (fun w' => shd_v hne w')
  have H4 := Lib.hid (fun w' (hb : Below w.heap.size w w') => sprs_any N s A cap ps AD dc dm h AH hc hs w' (hp.kept hb (Nat.le_refl _)) hcap (hd.kept hb (Nat.le_refl _)) (hi.kept hb (Nat.le_refl _)) hn ht hv hh hvs)
  have hL8 : (prL N ps s dm h hs).length ≤ 8 := by rw [prL_len]; omega
  have HW0 := Lib.hid (show Below w.heap.size w ((w.alloc (nb N A ps.length cap)).alloc (.cells #[] 3)) from ((Below.refl _ _).alloc (Nat.le_refl _) _).alloc (by simp) _)
  have HB3 := Lib.hid (fun w1 (hb : Below ((w.alloc (nb N A ps.length cap)).alloc (.cells #[] 3)).heap.size ((w.alloc (nb N A ps.length cap)).alloc (.cells #[] 3)) w1) => (show Below (w.heap.size + 1) (w.alloc (nb N A ps.length cap)) w1 from ((Below.refl _ _).alloc (by simp) _).trans (hb.mono (by simp))))
  have HO0 := Lib.hid (show IOwn ((w.alloc (nb N A ps.length cap)).alloc (.cells #[] 3)) (w.heap.size + 1) (.slice (some ⟨w.heap.size + 1, 0, none⟩) 0 0) [] from by
    have := own_empty (w.alloc (nb N A ps.length cap)) (w.heap.size + 1) (by simp)
    simpa using this)
  obtain ⟨i0, hi0, hz0, hz1, hz2⟩ := info_parts infoI
  clear hp hd hi hv ha hn ht hh hcap hvs hne
  generalize prL N ps s dm h hs = L at *
  go_enter Try.func30, Try.ntmps30
  go_wp2_with (first
    | (go_at_call 76; refine (H.out _ HW0.out).mono ?_; rintro e w1 ⟨rfl, hb1⟩; have HX1 := Lib.hid (HB3.out _ hb1); have HO1 := Lib.hid (HO0.out.on hb1); have hl1 : w.heap.size + 1 < w1.heap.size := (by have h9 := hb1.size; simp at h9; omega); clear hb1; obtain ⟨b0, b1⟩ := box2 HX1.out; have hy1 := box_lt HX1.out)
    | (go_at_call 85; refine (H2.out _ (below_box HX1.out)).mono ?_; rintro e w2 ⟨rfl, hb2⟩; have HX2 := Lib.hid (on_call HX1.out hb2); have HO2 := Lib.hid (HO1.out.on hb2); have hl2 : w1.heap.size ≤ w2.heap.size := hb2.size; clear b0 b1 hb2; obtain ⟨b0, b1⟩ := box2 HX2.out; have hy2 := box_lt HX2.out)
    | (go_at_call 86; refine (H3.out _).mono ?_; rintro e w3 ⟨rfl, hw⟩; replace hw := hw.symm; subst hw)
    | (go_at_call 87; refine (H4.out _ (below_box HX2.out)).mono ?_; rintro e w4 ⟨g, c, rfl, hg4, hO, hb4⟩; have HX4 := Lib.hid (on_call HX2.out hb4); have HO4 := Lib.hid (HO2.out.on hb4); have HI4 := Lib.hid hO.iat; clear b0 b1 hb4 hO; refine Hid.out ?_))
  have HIK := Lib.hid (fun w' (hb : Below w4.heap.size w4 w') => HI4.out.kept hb (Nat.le_refl _))
  have HB0 := Lib.hid (Below.refl w4.heap.size w4)
  have hz4w := HX4.out.size
  simp at hz4w
  have hg1 : w.heap.size + 1 < g := by omega
  clear H H2 H3 H4 HX1 HX2 HO1 HO2 HO0 HI4
  refine Lib.hid ?_
  go_wp2
  go_loopw [14, 16] (fun v i wr => ∃ k : Nat, k ≤ L.length ∧ i = .int .i64 (k : Int) ∧ Hid (IOwn wr (w.heap.size + 1) v (wkTo L need k)) ∧ Hid (v ≠ .slice none 0 0) ∧ Hid (v.ownBlock ≠ some g) ∧ Hid (IAt wr (some ⟨g, 0, none⟩) L) ∧ Hid (Below (w.heap.size + 1) (w.alloc (nb N A ps.length cap)) wr)) (fun _ i _ => L.length - (intOf i).toNat)
  case atStart => exact ⟨0, Nat.zero_le _, rfl, HO4, Lib.hid (by simp), Lib.hid (by simp [Value.ownBlock]; omega), Lib.hid (HIK.out _ HB0.out), HX4⟩
  case round =>
    clear HO4 HX4 HB0
    obtain ⟨k, hk, rfl, hown, hvn, hfar, hia, hX⟩ := hrel
    have hzX := hX.out.size
    simp at hzX
    by_cases hlt : k < L.length
    · obtain ⟨b, off, hA, hbl, p0⟩ := hia.out.at_ hlt
      simp only [Option.some.injEq, Addr.mk.injEq, and_true] at hA
      obtain ⟨rfl, rfl⟩ := hA
      rw [Nat.zero_add] at p0
      have hk0 : (0 : Int) ≤ (k : Int) := by omega
      have hkn : (k : Int) < (L.length : Int) := by omega
      have hla : L.getD k 0 = lA L k := rfl
      rw [hla] at p0
      have hdl := wkTo_len L need k
      clear hla
      by_cases hlow : lA L k < need
      · have hsn := Lib.hid (wkTo_yes hlow)
        have ho := hown.out
        unfold IOwn at ho
        generalize lA L k = y at *
        go_wp2_with (at_builtin; go_must (refine wpList_append_lies _ rfl _ _ 27 rfl (w.heap.size + 1) 3 i0 (.int .i64 0) 1 8 Try.underlying27 hi0 hz0 hz1 hz2 rfl (by decide) _ _ _ rfl (ho.alloc _) ⟨wr.heap.size, 0, none⟩ 1 1 [iv ((k : Int) + 1)] rfl rfl (cell_one_new _ _ _) (by intro u hu; simp at hu; subst hu; rfl) (by omega) (by unfold maxLen; omega) (by omega) (by simp; omega) (wr.heap.size + 1) (by simp) ?_); intro gg cap' w7 hown' hgrow hat hlt1)
        have hown3 := Lib.hid (IOwn.push hown')
        rw [← hsn.out] at hown3
        have hX7 := Lib.hid ((hX.out.alloc (by omega) (.cells #[iv ((k : Int) + 1)] 3)).grown hgrow (by simp; omega) (fun g hg => (ho.lt g hg).1))
        have hia7 := Lib.hid (IAt.farO (hia.out.kept (alloc_belowE wr (.cells #[iv ((k : Int) + 1)] 3)) (Nat.le_refl _)) hgrow hfar.out)
        have hf7 : Hid ((Value.slice (some ⟨gg, 0, none⟩) ((wkTo L need k).length + 1) cap').ownBlock ≠ some g) := Lib.hid (by
          intro e
          have hgb : gg = g := by simpa [Value.ownBlock] using e
          subst hgb
          rcases hat with hat | hat
          · exact hfar.out hat
          · omega)
        clear hown' hgrow ho hat
        go_wp2
        go_roundw
        case rel => exact ⟨k + 1, by omega, by go_num, hown3, Lib.hid (by simp), hf7, hia7, hX7⟩
        case measure => simp [intOf]; omega
      · have hsn := Lib.hid (wkTo_no hlow)
        rw [← hsn.out] at hown
        generalize lA L k = y at *
        go_wp2
        go_roundw
        case rel => exact ⟨k + 1, by omega, by go_num, hown, hvn, hfar, hia, hX⟩
        case measure => simp [intOf]; omega
    · have hkN : k = L.length := by omega
      have hown2 := hown.out
      rw [hkN] at hown2
      obtain ⟨g', capg, rfl, hg'⟩ := own_slice hown2 hvn.out
      have HO := Lib.hid hown2
      clear hkN hown2
      go_wp2
      go_ret2
      exact ⟨g', 0, capg, rfl, by omega, HO.out.iat, below_box hX.out, iown_lt' HO.out⟩
end Go.Proofs.Ytlkomipjamelkab.S2

namespace Go.Proofs.Ytlkomipjamelkab.S2
open Go.RowKit P2

/-- The most that is lacking among the first k, or 0. -/
def mstK (L : List Int) (need : Int) : Nat → Int
  | 0 => 0
  | k + 1 => max (mstK L need k) (need - lA L k)
theorem mstK_lo (L : List Int) (need : Int) : ∀ k, mstK L need (k + 1) = max 0 (need - loK L (k + 1))
  | 0 => by simp only [mstK, loK]; omega
  | k + 1 => by
    have h := mstK_lo L need k
    have e : loK L (k + 1 + 1) = min (loK L (k + 1)) (lA L (k + 1)) := rfl
    rw [mstK, h, e]
    omega
theorem mstK_in {L : List Int} {need : Int} {a b : Int} (ha : 0 ≤ b) (h : ∀ i, i < L.length → a ≤ need - lA L i ∧ need - lA L i ≤ b) : ∀ k, k ≤ L.length → 0 ≤ mstK L need k ∧ mstK L need k ≤ b
  | 0, _ => ⟨Int.le_refl _, ha⟩
  | k + 1, hk => by
    have h1 := mstK_in ha h k (by omega)
    have h2 := h k (by omega)
    rw [mstK]
    omega
theorem loK_ex (L : List Int) : ∀ k, 0 < k → ∃ i, i < k ∧ loK L k = lA L i
  | 0, h => absurd h (by omega)
  | 1, _ => ⟨0, by omega, loK_one L⟩
  | k + 2, _ => by
    obtain ⟨i, hi, he⟩ := loK_ex L (k + 1) (by omega)
    rw [loK]
    by_cases h : loK L (k + 1) ≤ lA L (k + 1)
    · exact ⟨i, by omega, by omega⟩
    · exact ⟨k + 1, by omega, by omega⟩
/-- What the source lacks is what is needed at least. -/
theorem need_nn {N : Nat} {ps : List Pp} {s : Nat} {dm hs : List Int} {need : Int} (hn : 0 ≤ need) (h1 : 1 ≤ s) (h2 : s ≤ N) (hhs : allR 0 100000000000 hs = true) (hl : hs.length = N) : mstK (prL N ps s dm 0 hs) need (prL N ps s dm 0 hs).length = need - loK (prL N ps s dm 0 hs) (prL N ps s dm 0 hs).length := by
  obtain ⟨M, rfl⟩ : ∃ M, N = M + 1 := ⟨N - 1, by omega⟩
  rw [prL_len, mstK_lo]
  have h3 := loK_le (prL (M + 1) ps s dm 0 hs) (M + 1) (s - 1) (by omega)
  rw [prL_at (by omega)] at h3
  have h4 : hdF (M + 1) ps s dm 0 (s - 1) = 0 := by
    unfold hdF
    rw [show ((s - 1 : Nat) : Int) + 1 = (s : Int) by omega, fall_self]
    rfl
  have h5 := allR_at hhs (i := s - 1) (by omega)
  rw [h4] at h3
  unfold lA at h3
  omega

set_option maxHeartbeats 1000000 in
theorem nd_no1 (n : Int) (A : Option Addr) (cap : Nat) (ps : List Pp) (x : Int) (AD : Option Addr) (dc : Nat) (dm : List Int) (AH : Option Addr) (hc : Nat) (hs : List Int) (need : Int) (w : World) (hT : ∀ w', Below w.heap.size w w' → Calls Try.prog 83 #[nv n A ps.length cap, .int .i64 x, .slice AD dm.length dc, .int .i64 0, .slice AH hs.length hc] w' (GivesI w' [] false)) :
    Calls Try.prog 26 #[nv n A ps.length cap, .int .i64 x, .slice AD dm.length dc, .slice AH hs.length hc, .int .i64 need] w fun e w' => e = .returned (.tuple #[.int .i64 0, .bool false]) ∧ Below w.heap.size w w' := by
  have H := Lib.hid hT
  clear hT
  go_enter Try.func26, Try.ntmps26
  go_wp2_with (go_at_call 83; refine (H.out _ ((Below.refl _ _).alloc (Nat.le_refl _) _)).mono ?_; rintro e w1 ⟨g, c, rfl, hg, hO, hb1⟩)
  go_ret2
  exact ⟨rfl, below_alloc_call hb1⟩
set_option maxHeartbeats 1000000 in
theorem nd_no2 (n : Int) (A : Option Addr) (cap : Nat) (ps : List Pp) (x : Int) (AD : Option Addr) (dc : Nat) (dm : List Int) (AH : Option Addr) (hc : Nat) (hs : List Int) (need : Int) (L : List Int) (w : World) (hv : hdR need = false) (hT : ∀ w', Below w.heap.size w w' → Calls Try.prog 83 #[nv n A ps.length cap, .int .i64 x, .slice AD dm.length dc, .int .i64 0, .slice AH hs.length hc] w' (GivesI w' L true)) :
    Calls Try.prog 26 #[nv n A ps.length cap, .int .i64 x, .slice AD dm.length dc, .slice AH hs.length hc, .int .i64 need] w fun e w' => e = .returned (.tuple #[.int .i64 0, .bool false]) ∧ Below w.heap.size w w' := by
  have H := Lib.hid hT
  have H2 := Lib.hid (fun w' => ahd_one hv w')
  clear hT hv
  go_enter Try.func26, Try.ntmps26
  go_wp2_with (first
    | (go_at_call 83; refine (H.out _ ((Below.refl _ _).alloc (Nat.le_refl _) _)).mono ?_; rintro e w1 ⟨g, c, rfl, hg, hO, hb1⟩; have hB1 := Lib.hid (below_alloc_call hb1); clear hO hb1)
    | (go_at_call 75; refine (H2.out _).mono ?_; rintro e w2 ⟨rfl, hb2⟩))
  go_ret2
  exact ⟨rfl, hB1.out.trans (hb2.mono hB1.out.size)⟩
set_option maxHeartbeats 1000000 in
theorem nd_ok (n : Int) (A : Option Addr) (cap : Nat) (ps : List Pp) (x : Int) (AD : Option Addr) (dc : Nat) (dm : List Int) (AH : Option Addr) (hc : Nat) (hs : List Int) (need : Int) (L : List Int) (u : Int × Bool) (w : World) (hL0 : 0 < L.length) (hL8 : L.length ≤ 8) (hb : ∀ i, i < L.length → -1000000000000 ≤ lA L i ∧ lA L i ≤ 1000000000000) (hv : hdR need = true) (hu : u = if hdR (need - loK L L.length) = true then (need - loK L L.length, true) else (0, false)) (hT : ∀ w', Below w.heap.size w w' → Calls Try.prog 83 #[nv n A ps.length cap, .int .i64 x, .slice AD dm.length dc, .int .i64 0, .slice AH hs.length hc] w' (GivesI w' L true)) :
    Calls Try.prog 26 #[nv n A ps.length cap, .int .i64 x, .slice AD dm.length dc, .slice AH hs.length hc, .int .i64 need] w fun e w' => e = .returned (.tuple #[.int .i64 u.1, .bool u.2]) ∧ Below w.heap.size w w' := by
  have H := Lib.hid hT
  have H2 := Lib.hid (fun w' => ahd_one hv w')
  obtain ⟨hv1, hv2⟩ := hdR_of hv
  have hlo : -1000000000000 ≤ loK L L.length ∧ loK L L.length ≤ 1000000000000 := by
    obtain ⟨i, hi, he⟩ := loK_ex L L.length hL0
    rw [he]; exact hb i hi
  have H3 := Lib.hid (fun g c w' (hO : IAt w' (some ⟨g, 0, none⟩) L) => min_any (some ⟨g, 0, none⟩) c L w' hO hL0 (by omega))
  obtain ⟨v4, hv4⟩ : ∃ v, hdR (need - loK L L.length) = v := ⟨_, rfl⟩
  have H4 := Lib.hid (fun w' => ahd_one hv4 w')
  rw [hv4] at hu
  clear hT hv hv4 hb
  generalize loK L L.length = m at *
  have wS : IntKind.i64.wrap (need - m) = need - m := w64 _ (by omega)
  cases v4 with
  | false =>
    have HU := Lib.hid (show u = (0, false) from hu)
    clear hu
    go_enter Try.func26, Try.ntmps26
    go_wp2_with (first
      | (go_at_call 83; refine (H.out _ ((Below.refl _ _).alloc (Nat.le_refl _) _)).mono ?_; rintro e w1 ⟨g, c, rfl, hg, hO, hb1⟩; have hB1 := Lib.hid (below_alloc_call hb1); have HI1 := Lib.hid hO.iat; clear hO hb1)
      | (go_at_call_of 75 (Value.slice (some ⟨w1.heap.size, 0, none⟩) 1 1); refine (H2.out _).mono ?_; rintro e w2 ⟨rfl, hb2⟩; have hB2 := Lib.hid (hB1.out.trans (hb2.mono hB1.out.size)); have HI2 := Lib.hid (HI1.out.kept hb2 (Nat.le_refl _)); clear hb2)
      | (go_at_call 84; refine (H3.out _ _ _ HI2.out).mono ?_; rintro e w3 ⟨rfl, hw⟩; replace hw := hw.symm; subst hw)
      | (go_at_call_of 75 (Value.slice (some ⟨w2.heap.size, 0, none⟩) 1 1); refine (H4.out _).mono ?_; rintro e w4 ⟨rfl, hb4⟩))
    go_ret2
    exact ⟨by rw [HU.out]; rfl, hB2.out.trans (hb4.mono hB2.out.size)⟩
  | true =>
    have HU := Lib.hid (show u = (need - m, true) from hu)
    clear hu
    go_enter Try.func26, Try.ntmps26
    go_wp2_with (first
      | (go_at_call 83; refine (H.out _ ((Below.refl _ _).alloc (Nat.le_refl _) _)).mono ?_; rintro e w1 ⟨g, c, rfl, hg, hO, hb1⟩; have hB1 := Lib.hid (below_alloc_call hb1); have HI1 := Lib.hid hO.iat; clear hO hb1)
      | (go_at_call_of 75 (Value.slice (some ⟨w1.heap.size, 0, none⟩) 1 1); refine (H2.out _).mono ?_; rintro e w2 ⟨rfl, hb2⟩; have hB2 := Lib.hid (hB1.out.trans (hb2.mono hB1.out.size)); have HI2 := Lib.hid (HI1.out.kept hb2 (Nat.le_refl _)); clear hb2)
      | (go_at_call 84; refine (H3.out _ _ _ HI2.out).mono ?_; rintro e w3 ⟨rfl, hw⟩; replace hw := hw.symm; subst hw)
      | (go_at_call_of 75 (Value.slice (some ⟨w2.heap.size, 0, none⟩) 1 1); refine (H4.out _).mono ?_; rintro e w4 ⟨rfl, hb4⟩))
    go_ret2
    exact ⟨by rw [HU.out]; rfl, hB2.out.trans (hb4.mono hB2.out.size)⟩

/-! ### The model -/
set_option maxHeartbeats 2000000 in
theorem snd_no (n : Int) (A : Option Addr) (cap : Nat) (ps : List Pp) (x : Int) (AD : Option Addr) (dc : Nat) (dm : List Int) (AH : Option Addr) (hc : Nat) (hs : List Int) (need : Int) (w : World) (hp : PAt w A ps) (hm : ps.length ≤ maxLen) (hd : IAt w AD dm) (hdl : dm.length ≤ 1048576) (hi : IAt w AH hs) (hil : hs.length ≤ 1048576) (hv : askP n ps x dm 0 hs = false ∨ hdR need = false) :
    Calls Try.prog 27 #[nv n A ps.length cap, .int .i64 x, .slice AD dm.length dc, .slice AH hs.length hc, .int .i64 need] w fun e w' => e = .returned (.tuple #[.int .i64 0, .bool false]) ∧ Below w.heap.size w w' := by
  obtain ⟨v1, hv1⟩ : ∃ v, askH n ps x dm 0 = v := ⟨_, rfl⟩
  obtain ⟨v2, hv2⟩ : ∃ v, hsB n hs = v := ⟨_, rfl⟩
  have H := Lib.hid (fun w' (hb : Below w.heap.size w w') => ask_v hv1 A cap AD dc w' (hp.kept hb (Nat.le_refl _)) hm (hd.kept hb (Nat.le_refl _)) hdl)
  have H2 := Lib.hid (fun w' (hb : Below w.heap.size w w') => shs_v hv2 A ps.length cap AH hc w' (hi.kept hb (Nat.le_refl _)) hil)
  have HV := Lib.hid (show v1 = true → v2 = true → hdR need = false from fun a b => by
    rcases hv with h | h
    · unfold askP at h; rw [hv1, hv2, a, b] at h; cases h
    · exact h)
  clear hp hd hi hv hv1 hv2
  cases v1 with
  | false =>
    go_enter Try.func27, Try.ntmps27
    go_wp2_with (go_at_call 76; refine (H.out _ ((Below.refl _ _).alloc (Nat.le_refl _) _)).mono ?_; rintro e w1 ⟨rfl, hb1⟩)
    go_ret2
    exact ⟨rfl, below_alloc_call hb1⟩
  | true =>
    cases v2 with
    | false =>
      go_enter Try.func27, Try.ntmps27
      go_wp2_with (first
        | (go_at_call 76; refine (H.out _ ((Below.refl _ _).alloc (Nat.le_refl _) _)).mono ?_; rintro e w1 ⟨rfl, hb1⟩; have HX1 := Lib.hid (show Below (w.heap.size + 1) (w.alloc (nb n A ps.length cap)) w1 by simpa using hb1); clear hb1; obtain ⟨b0, b1⟩ := box2 HX1.out; have hy1 := box_lt HX1.out)
        | (go_at_call 85; refine (H2.out _ (below_box HX1.out)).mono ?_; rintro e w2 ⟨rfl, hb2⟩))
      go_ret2
      exact ⟨rfl, (below_box HX1.out).trans (hb2.mono (below_box HX1.out).size)⟩
    | true =>
      have H3 := Lib.hid (fun w' => shd_v (HV.out rfl rfl) w')
      go_enter Try.func27, Try.ntmps27
      go_wp2_with (first
        | (go_at_call 76; refine (H.out _ ((Below.refl _ _).alloc (Nat.le_refl _) _)).mono ?_; rintro e w1 ⟨rfl, hb1⟩; have HX1 := Lib.hid (show Below (w.heap.size + 1) (w.alloc (nb n A ps.length cap)) w1 by simpa using hb1); clear hb1; obtain ⟨b0, b1⟩ := box2 HX1.out; have hy1 := box_lt HX1.out)
        | (go_at_call 85; refine (H2.out _ (below_box HX1.out)).mono ?_; rintro e w2 ⟨rfl, hb2⟩)
        | (go_at_call 86; refine (H3.out _).mono ?_; rintro e w3 ⟨rfl, hw⟩; replace hw := hw.symm; subst hw))
      go_ret2
      exact ⟨rfl, (below_box HX1.out).trans (hb2.mono (below_box HX1.out).size)⟩

set_option maxHeartbeats 2000000 in
set_option maxRecDepth 100000 in
theorem snd_ok (N s : Nat) (A : Option Addr) (cap : Nat) (ps : List Pp) (AD : Option Addr) (dc : Nat) (dm : List Int) (AH : Option Addr) (hc : Nat) (hs : List Int) (need : Int) (u : Int × Bool) (w : World) (hp : PAt w A ps) (hm : ps.length ≤ maxLen) (hcap : ps.length ≤ cap) (hd : IAt w AD dm) (hdl : dm.length ≤ 1048576) (hi : IAt w AH hs) (hil : hs.length ≤ 1048576) (ha : askH N ps s dm 0 = true) (hn : nodeB N ps s = true) (ht : treeB N ps = true) (hv : demB N ps dm = true) (hh : hdR 0 = true) (hvs : hsB N hs = true) (hne : hdR need = true) (hb : ∀ i, i < (prL N ps s dm 0 hs).length → -1000000000000 ≤ lA (prL N ps s dm 0 hs) i ∧ lA (prL N ps s dm 0 hs) i ≤ 1000000000000)
    (hu : u = if hdR (mstK (prL N ps s dm 0 hs) need (prL N ps s dm 0 hs).length) = true then (mstK (prL N ps s dm 0 hs) need (prL N ps s dm 0 hs).length, true) else (0, false)) :
    Calls Try.prog 27 #[nv N A ps.length cap, .int .i64 (s : Int), .slice AD dm.length dc, .slice AH hs.length hc, .int .i64 need] w fun e w' => e = .returned (.tuple #[.int .i64 u.1, .bool u.2]) ∧ Below w.heap.size w w' := by
  have hN8 := (nodeB_of hn).1.2.1
  obtain ⟨hn1, hn2⟩ := hdR_of hne
  have H := Lib.hid (fun w' (hb : Below w.heap.size w w') => ask_v ha A cap AD dc w' (hp.kept hb (Nat.le_refl _)) hm (hd.kept hb (Nat.le_refl _)) hdl)
  have H2 := Lib.hid (fun w' (hb : Below w.heap.size w w') => shs_v hvs A ps.length cap AH hc w' (hi.kept hb (Nat.le_refl _)) hil)
  have H3 := Lib.hid (fun w' => shd_v hne w')
  have H4 := Lib.hid (fun w' (hb : Below w.heap.size w w') => sprs_any N s A cap ps AD dc dm 0 AH hc hs w' (hp.kept hb (Nat.le_refl _)) hcap (hd.kept hb (Nat.le_refl _)) (hi.kept hb (Nat.le_refl _)) hn ht hv hh hvs)
  have hL8 : (prL N ps s dm 0 hs).length ≤ 8 := by rw [prL_len]; omega
  clear hp hd hi hv ha hn ht hh hcap hvs hne
  generalize prL N ps s dm 0 hs = L at *
  have HBD := Lib.hid hb
  have HMI := Lib.hid (mstK_in (L := L) (need := need) (a := -2000000000000) (b := 2000000000000) (by omega) (fun i hi => by have := hb i hi; omega))
  have HMS := Lib.hid (fun k => show mstK L need (k + 1) = max (mstK L need k) (need - lA L k) from rfl)
  have HU := Lib.hid hu
  clear hu hb
  go_enter Try.func27, Try.ntmps27
  go_wp2_with (first
    | (go_at_call 76; refine (H.out _ ((Below.refl _ _).alloc (Nat.le_refl _) _)).mono ?_; rintro e w1 ⟨rfl, hb1⟩; have HX1 := Lib.hid (show Below (w.heap.size + 1) (w.alloc (nb N A ps.length cap)) w1 by simpa using hb1); clear hb1; obtain ⟨b0, b1⟩ := box2 HX1.out; have hy1 := box_lt HX1.out)
    | (go_at_call 85; refine (H2.out _ (below_box HX1.out)).mono ?_; rintro e w2 ⟨rfl, hb2⟩; have HX2 := Lib.hid (on_call HX1.out hb2); clear b0 b1 hb2; obtain ⟨b0, b1⟩ := box2 HX2.out; have hy2 := box_lt HX2.out)
    | (go_at_call_of 86 (Value.int IntKind.i64 need); refine (H3.out _).mono ?_; rintro e w3 ⟨rfl, hw⟩; replace hw := hw.symm; subst hw)
    | (go_at_call 87; refine (H4.out _ (below_box HX2.out)).mono ?_; rintro e w4 ⟨g, c, rfl, hg4, hO, hb4⟩; have HB4 := Lib.hid ((below_box HX2.out).trans (hb4.mono (below_box HX2.out).size)); have HI4 := Lib.hid hO.iat; clear b0 b1 hb4 hO; refine Hid.out ?_))
  clear H H2 H3 H4 HX1 HX2
  refine Lib.hid ?_
  go_wp2
  go_loop [13, 14] (fun m i => ∃ k : Nat, k ≤ L.length ∧ i = .int .i64 (k : Int) ∧ m = .int .i64 (mstK L need k)) (fun _ i => L.length - (intOf i).toNat)
  case atStart => exact ⟨0, Nat.zero_le _, rfl, rfl⟩
  case round =>
    obtain ⟨k, hk, rfl, rfl⟩ := hrel
    have hmi := HMI.out k hk
    by_cases hlt : k < L.length
    · obtain ⟨b, off, hA, hbl, p0⟩ := HI4.out.at_ hlt
      simp only [Option.some.injEq, Addr.mk.injEq, and_true] at hA
      obtain ⟨rfl, rfl⟩ := hA
      rw [Nat.zero_add] at p0
      have hk0 : (0 : Int) ≤ (k : Int) := by omega
      have hkn : (k : Int) < (L.length : Int) := by omega
      have hla : L.getD k 0 = lA L k := rfl
      rw [hla] at p0
      have hbd := HBD.out k hlt
      have HM := Lib.hid (HMS.out k)
      clear hla
      generalize lA L k = y at *
      generalize mstK L need k = m at *
      have wS : IntKind.i64.wrap (need - y) = need - y := w64 _ (by omega)
      have HC := Lib.hid (fun w' => smost_any m (need - y) w')
      go_wp2_with (go_at_call 88; refine (HC.out _).mono ?_; rintro e w5 ⟨rfl, hw⟩; replace hw := hw.symm; subst hw)
      go_round
      case rel => exact ⟨k + 1, by omega, by go_num, by rw [HM.out]⟩
      case measure => simp [intOf]; omega
    · have hkN : k = L.length := by omega
      subst hkN
      obtain ⟨v4, hv4⟩ : ∃ v, hdR (mstK L need L.length) = v := ⟨_, rfl⟩
      have H5 := Lib.hid (fun w' => shd_v hv4 w')
      have HU2 := HU.out
      rw [hv4] at HU2
      have HU3 := Lib.hid HU2
      clear hv4 HU2
      generalize mstK L need L.length = m at *
      cases v4 with
      | false =>
        go_wp2_with (go_at_call 86; refine (H5.out _).mono ?_; rintro e w5 ⟨rfl, hw⟩; replace hw := hw.symm; subst hw)
        go_ret2
        exact ⟨by rw [HU3.out]; rfl, HB4.out⟩
      | true =>
        go_wp2_with (go_at_call 86; refine (H5.out _).mono ?_; rintro e w5 ⟨rfl, hw⟩; replace hw := hw.symm; subst hw)
        go_ret2
        exact ⟨by rw [HU3.out]; rfl, HB4.out⟩
end Go.Proofs.Ytlkomipjamelkab.S2

namespace Go.Proofs.Ytlkomipjamelkab.S2
open Go.RowKit P2

theorem hd_pack (n : Int) (ps : List Pp) (x : Int) (dm : List Int) (h0 : Int) (hm : ps.length ≤ maxLen) (hdl : dm.length ≤ 1048576) : ∃ (L : List Int) (ok : Bool), L.length ≤ 8 ∧ (ok = true → ∃ N s : Nat, n = N ∧ x = s ∧ nodeB N ps s = true ∧ treeB N ps = true ∧ demB N ps dm = true ∧ hdR h0 = true ∧ L = hdL N ps s dm h0) ∧
    (∀ (A : Option Addr) (c : Nat) (AD : Option Addr) (dc : Nat) (w : World), PAt w A ps → ps.length ≤ c → IAt w AD dm →
      Calls Try.prog 21 #[nv n A ps.length c, .int .i64 x, .slice AD dm.length dc, .int .i64 h0] w (GivesI w L ok) ∧
      Calls Try.prog 22 #[nv n A ps.length c, .int .i64 x, .slice AD dm.length dc, .int .i64 h0] w (GivesA w L ok)) := by
  cases hv : askH n ps x dm h0 with
  | false => exact ⟨[], false, by simp, by simp, fun A c AD dc w h hc hd => ⟨hd_bad n A c ps x AD dc dm h0 w h hm hd hdl hv, shd_no n A c ps x AD dc dm h0 w h hm hd hdl hv⟩⟩
  | true =>
    obtain ⟨N, X, rfl, rfl, h1, h2, h3, h4⟩ := askH_of hv
    have hN8 := (nodeB_of h1).1.2.1
    exact ⟨hdL N ps X dm h0, true, by rw [hdL_len]; omega, fun _ => ⟨N, X, rfl, rfl, h1, h3, h2, h4, rfl⟩, fun A c AD dc w h hc hd => ⟨hd_yes N X A c ps AD dc dm h0 w h hm hd hdl h1 h3 h2 h4, shd_yes N X A c ps AD dc dm h0 w h hm hc hd hdl hv h1 h3 h2 h4⟩⟩
theorem wk_pack (n : Int) (ps : List Pp) (x : Int) (dm : List Int) (h0 : Int) (hs : List Int) (need : Int) (hm : ps.length ≤ maxLen) (hdl : dm.length ≤ 1048576) (hil : hs.length ≤ 1048576) : ∃ (L : List Int) (ok : Bool), L.length ≤ 8 ∧
    (∀ (A : Option Addr) (c : Nat) (AD : Option Addr) (dc : Nat) (AH : Option Addr) (ch : Nat) (w : World), PAt w A ps → ps.length ≤ c → IAt w AD dm → IAt w AH hs →
      Calls Try.prog 28 #[nv n A ps.length c, .int .i64 x, .slice AD dm.length dc, .int .i64 h0, .slice AH hs.length ch, .int .i64 need] w (GivesI w L ok) ∧
      Calls Try.prog 30 #[nv n A ps.length c, .int .i64 x, .slice AD dm.length dc, .int .i64 h0, .slice AH hs.length ch, .int .i64 need] w (GivesA w L ok)) ∧
    (ok = true ↔ askP n ps x dm h0 hs = true ∧ hdR need = true) ∧ (ok = true → ∃ N s : Nat, n = N ∧ x = s ∧ L = wkTo (prL N ps s dm h0 hs) need N) := by
  cases hv : askP n ps x dm h0 hs with
  | false => exact ⟨[], false, by simp, fun A c AD dc AH ch w h hc hd hi => ⟨wk_no1 n A c ps x AD dc dm h0 AH ch hs need w (fun w' hb => pr_bad n A c ps x AD dc dm h0 AH ch hs w' (h.kept hb (Nat.le_refl _)) hm (hd.kept hb (Nat.le_refl _)) hdl (hi.kept hb (Nat.le_refl _)) hil (askP_no hv)), swk_no n A c ps x AD dc dm h0 AH ch hs need w h hm hd hdl hi hil (.inl hv)⟩, by simp, by simp⟩
  | true =>
    obtain ⟨hva, hvs⟩ := askP_of hv
    obtain ⟨N, X, rfl, rfl, h1, h2, h3, h4⟩ := askH_of hva
    have hN8 := (nodeB_of h1).1.2.1
    have hPL : (prL N ps X dm h0 hs).length = N := prL_len _ _ _ _ _ _
    have hL8 : (prL N ps X dm h0 hs).length ≤ 8 := by rw [hPL]; omega
    cases hne : hdR need with
    | false => exact ⟨[], false, by simp, fun A c AD dc AH ch w h hc hd hi => ⟨wk_no2 N A c ps X AD dc dm h0 AH ch hs need _ w hne (fun w' hb => pr_yes N X A c ps AD dc dm h0 AH ch hs w' (h.kept hb (Nat.le_refl _)) hm (hd.kept hb (Nat.le_refl _)) hdl (hi.kept hb (Nat.le_refl _)) h1 h3 h2 h4 hvs), swk_no N A c ps X AD dc dm h0 AH ch hs need w h hm hd hdl hi hil (.inr hne)⟩, by simp, by simp⟩
    | true =>
      have hwl := wkTo_len (prL N ps X dm h0 hs) need (prL N ps X dm h0 hs).length
      exact ⟨wkTo (prL N ps X dm h0 hs) need (prL N ps X dm h0 hs).length, true, by omega, fun A c AD dc AH ch w h hc hd hi => ⟨wk_yes N A c ps X AD dc dm h0 AH ch hs need _ w hL8 hne (fun w' hb => pr_yes N X A c ps AD dc dm h0 AH ch hs w' (h.kept hb (Nat.le_refl _)) hm (hd.kept hb (Nat.le_refl _)) hdl (hi.kept hb (Nat.le_refl _)) h1 h3 h2 h4 hvs), swk_yes N X A c ps AD dc dm h0 AH ch hs need w h hm hc hd hdl hi hil hva h1 h3 h2 h4 hvs hne⟩, by simp, fun _ => ⟨N, X, rfl, rfl, by rw [hPL]⟩⟩
theorem nd_pack (n : Int) (ps : List Pp) (x : Int) (dm hs : List Int) (need : Int) (hm : ps.length ≤ maxLen) (hdl : dm.length ≤ 1048576) (hil : hs.length ≤ 1048576) : ∃ (v : Int) (ok : Bool), (ok = true → ∃ N s : Nat, n = N ∧ x = s ∧ nodeB N ps s = true ∧ treeB N ps = true ∧ demB N ps dm = true ∧ hsB N hs = true ∧ hdR need = true ∧ hdR v = true ∧ v = mstK (prL N ps s dm 0 hs) need N ∧ 0 < N ∧ v = need - loK (prL N ps s dm 0 hs) N) ∧
    (∀ (A : Option Addr) (c : Nat) (AD : Option Addr) (dc : Nat) (AH : Option Addr) (ch : Nat) (w : World), PAt w A ps → ps.length ≤ c → IAt w AD dm → IAt w AH hs →
      (Calls Try.prog 26 #[nv n A ps.length c, .int .i64 x, .slice AD dm.length dc, .slice AH hs.length ch, .int .i64 need] w fun e w' => e = .returned (.tuple #[.int .i64 v, .bool ok]) ∧ Below w.heap.size w w') ∧
      (Calls Try.prog 27 #[nv n A ps.length c, .int .i64 x, .slice AD dm.length dc, .slice AH hs.length ch, .int .i64 need] w fun e w' => e = .returned (.tuple #[.int .i64 v, .bool ok]) ∧ Below w.heap.size w w')) := by
  cases hv : askP n ps x dm 0 hs with
  | false => exact ⟨0, false, by simp, fun A c AD dc AH ch w h hc hd hi => ⟨nd_no1 n A c ps x AD dc dm AH ch hs need w (fun w' hb => pr_bad n A c ps x AD dc dm 0 AH ch hs w' (h.kept hb (Nat.le_refl _)) hm (hd.kept hb (Nat.le_refl _)) hdl (hi.kept hb (Nat.le_refl _)) hil (askP_no hv)), snd_no n A c ps x AD dc dm AH ch hs need w h hm hd hdl hi hil (.inl hv)⟩⟩
  | true =>
    obtain ⟨hva, hvs⟩ := askP_of hv
    obtain ⟨N, X, rfl, rfl, h1, h2, h3, h4⟩ := askH_of hva
    obtain ⟨hg, hX1, hX2⟩ := nodeB_of h1
    obtain ⟨_, hdn, hr⟩ := demB_of h2
    obtain ⟨hsl, hsr⟩ := hsB_of hvs
    have hN8 := hg.2.1
    have hN1 := hg.1
    have hPL : (prL N ps X dm 0 hs).length = N := prL_len _ _ _ _ _ _
    cases hne : hdR need with
    | false => exact ⟨0, false, by simp, fun A c AD dc AH ch w h hc hd hi => ⟨nd_no2 N A c ps X AD dc dm AH ch hs need _ w hne (fun w' hb => pr_yes N X A c ps AD dc dm 0 AH ch hs w' (h.kept hb (Nat.le_refl _)) hm (hd.kept hb (Nat.le_refl _)) hdl (hi.kept hb (Nat.le_refl _)) h1 h3 h2 h4 hvs), snd_no N A c ps X AD dc dm AH ch hs need w h hm hd hdl hi hil (.inr hne)⟩⟩
    | true =>
      obtain ⟨hn1, hn2⟩ := hdR_of hne
      have hb : ∀ i, i < (prL N ps X dm 0 hs).length → -1000000000000 ≤ lA (prL N ps X dm 0 hs) i ∧ lA (prL N ps X dm 0 hs) i ≤ 1000000000000 := fun i hi => by
        rw [hPL] at hi
        rw [prL_at hi]
        have a := hdF_in hg h3 hr hdn (s := X) (h := 0) (by omega) (by omega) (by omega) (by omega) hi
        have b := allR_at hsr (i := i) (by omega)
        unfold lA
        omega
      have he := need_nn (ps := ps) (s := X) (dm := dm) (hs := hs) hn1 (by omega) (by omega) hsr (show hs.length = N by omega)
      obtain ⟨u, hu⟩ : ∃ u : Int × Bool, u = if hdR (need - loK (prL N ps X dm 0 hs) (prL N ps X dm 0 hs).length) = true then (need - loK (prL N ps X dm 0 hs) (prL N ps X dm 0 hs).length, true) else (0, false) := ⟨_, rfl⟩
      refine ⟨u.1, u.2, fun hok => ?_, fun A c AD dc AH ch w h hc hd hi => ⟨nd_ok N A c ps X AD dc dm AH ch hs need (prL N ps X dm 0 hs) u w (by rw [hPL]; omega) (by rw [hPL]; omega) hb hne hu (fun w' hb => pr_yes N X A c ps AD dc dm 0 AH ch hs w' (h.kept hb (Nat.le_refl _)) hm (hd.kept hb (Nat.le_refl _)) hdl (hi.kept hb (Nat.le_refl _)) h1 h3 h2 h4 hvs), snd_ok N X A c ps AD dc dm AH ch hs need u w h hm hc hd hdl hi hil hva h1 h3 h2 h4 hvs hne hb (by rw [he]; exact hu)⟩⟩
      by_cases hR : hdR (need - loK (prL N ps X dm 0 hs) (prL N ps X dm 0 hs).length) = true
      · rw [if_pos hR] at hu
        subst hu
        refine ⟨N, X, rfl, rfl, h1, h3, h2, hvs, rfl, hR, ?_, by omega, ?_⟩
        · show need - _ = _
          rw [← he, hPL]
        · show need - _ = _
          rw [hPL]
      · rw [if_neg hR] at hu
        subst hu
        exact absurd hok (by simp)
/-- At the head that is needed no node is weak, and at one less some node is. -/
theorem wk_needed {N s : Nat} {ps : List Pp} {dm hs : List Int} {need v : Int} (hN : 0 < N) (hv : v = mstK (prL N ps s dm 0 hs) need N) (hl : v = need - loK (prL N ps s dm 0 hs) N) : wkTo (prL N ps s dm v hs) need N = [] ∧ wkTo (prL N ps s dm (v - 1) hs) need N ≠ [] := by
  have hat : ∀ (h : Int) (i : Nat), i < N → lA (prL N ps s dm h hs) i = lA (prL N ps s dm 0 hs) i + h := fun h i hi => by
    rw [prL_at hi, prL_at hi]
    unfold hdF
    omega
  constructor
  · unfold wkTo
    rw [List.map_eq_nil_iff, List.filter_eq_nil_iff]
    intro i hi
    have hi2 := List.mem_range.1 hi
    have h1 := loK_le (prL N ps s dm 0 hs) N i hi2
    have h2 := hat v i hi2
    simp only [decide_eq_true_eq]
    omega
  · obtain ⟨i, hi, he⟩ := loK_ex (prL N ps s dm 0 hs) N hN
    have h2 := hat (v - 1) i hi
    intro hc
    unfold wkTo at hc
    rw [List.map_eq_nil_iff, List.filter_eq_nil_iff] at hc
    have := hc i (List.mem_range.2 hi)
    simp only [decide_eq_true_eq] at this
    omega
/-- What the law says of one pipe of a tree. -/
theorem hp_pack {M s : Nat} {ps : List Pp} {dm : List Int} {h0 : Int} (hn : nodeB M ps s = true) (ht : treeB M ps = true) (hd : demB M ps dm = true) (hh : hdR h0 = true) {i : Nat} (hi : i < ps.length) : ∃ (f t : Nat) (a b l : Int), f < M ∧ t < M ∧ (pAt ps i).fr = (f : Int) + 1 ∧ (pAt ps i).to = (t : Int) + 1 ∧ (hdL M ps s dm h0).getD f 0 = a ∧ (hdL M ps s dm h0).getD t 0 = b ∧ lossI (pAt ps i) (lA (tfL M ps s dm) i) = l ∧ a - b = l ∧ -5000000000 ≤ a ∧ a ≤ 105000000000 ∧ -5000000000 ≤ b ∧ b ≤ 105000000000 ∧ 0 ≤ h0 ∧ h0 ≤ 100000000000 ∧
    (∀ (A : Option Addr) (c : Nat) (AF : Option Addr) (fc : Nat) (w : World), PAt w A ps → IAt w AF (tfL M ps s dm) → Calls Try.prog 24 #[nv M A ps.length c, .slice AF (tfL M ps s dm).length fc, .int .i64 (s : Int), .int .i64 ((t : Int) + 1)] w fun e w' => e = .returned (.tuple #[.int .i64 (h0 - b), .bool true]) ∧ Below w.heap.size w w') := by
  obtain ⟨hg, s1, s2⟩ := nodeB_of hn
  obtain ⟨_, hdn, hr⟩ := demB_of hd
  obtain ⟨g1, g2⟩ := hdR_of hh
  obtain ⟨_, _, f1, f2, t1, t2, _⟩ := good_pp hg (pAt_mem hi)
  have hp10 := hg.2.2.1
  have e1 : (((pAt ps i).fr - 1).toNat : Int) + 1 = (pAt ps i).fr := by omega
  have e2 : (((pAt ps i).to - 1).toNat : Int) + 1 = (pAt ps i).to := by omega
  have hst := fall_step hg ht (by omega) (by omega) dm hi (s := s)
  have b1 := hdF_in hg ht hr hdn (s := s) (by omega) (by omega) g1 g2 (i := ((pAt ps i).fr - 1).toNat) (by omega)
  have b2 := hdF_in hg ht hr hdn (s := s) (by omega) (by omega) g1 g2 (i := ((pAt ps i).to - 1).toNat) (by omega)
  have hff : hdF M ps s dm h0 ((pAt ps i).fr - 1).toNat = h0 - fallA M ps s dm (pAt ps i).fr := by unfold hdF; rw [e1]
  have hft : hdF M ps s dm h0 ((pAt ps i).to - 1).toNat = h0 - fallA M ps s dm (pAt ps i).to := by unfold hdF; rw [e2]
  refine ⟨((pAt ps i).fr - 1).toNat, ((pAt ps i).to - 1).toNat, _, _, _, by omega, by omega, e1.symm, e2.symm, hdL_at (by omega), hdL_at (by omega), rfl, by rw [hff, hft]; omega, b1.1, b1.2, b2.1, b2.2, g1, g2, fun A c AF fc w h hf => ?_⟩
  rw [hft, e2]
  obtain ⟨T, hT⟩ : ∃ T : Nat, (pAt ps i).to = T := ⟨(pAt ps i).to.toNat, by omega⟩
  have hdist := tree_dist hg ht (s := s) (by omega) (by omega) t1 t2
  have hwo := wy_ok hg ht (s := s) (by omega) (by omega) t1 t2
  have hnt : nodeB M ps (pAt ps i).to = true := node_mk hg t1 t2
  have H := al_yes M A c ps AF fc (tfL M ps s dm) s (pAt ps i).to (wyA ps s (pAt ps i).to) w h (by unfold maxLen; omega) hf (by rw [tfL_len]; omega) (tfl_flo hg hr hdn) hwo (fun w' hb => by
    have hy := way_yes M s T A c ps w' (h.kept hb (Nat.le_refl _)) (by unfold maxLen; omega) hn (by rw [← hT]; exact hnt) (dist ps (pAt ps i).to s).toNat (by rw [← hT]; exact hdist)
    rw [← hT] at hy
    exact hy)
  refine H.mono ?_
  rintro e w' ⟨he, hb⟩
  refine ⟨?_, hb⟩
  rw [he]
  unfold fallA
  rw [show h0 - (h0 - alongA ps (tfL M ps s dm) (wyA ps s (pAt ps i).to) s) = alongA ps (tfL M ps s dm) (wyA ps s (pAt ps i).to) s by omega]
theorem wk_ask {M s : Nat} {ps : List Pp} {dm hs : List Int} {v : Int} (hn : nodeB M ps s = true) (ht : treeB M ps = true) (hd : demB M ps dm = true) (hvs : hsB M hs = true) (hR : hdR v = true) : askP M ps s dm v hs = true := by
  unfold askP askH
  rw [hn, Int.toNat_natCast, ht, hR, hvs]
  unfold demB at hd
  simp at hd ⊢
  exact hd.2
/-- What the law says of the head that is needed. -/
theorem nk_pack {M s : Nat} {ps : List Pp} {dm hs : List Int} {need v : Int} (hm : ps.length ≤ maxLen) (hdl : dm.length ≤ 1048576) (hil : hs.length ≤ 1048576) (hn : nodeB M ps s = true) (ht : treeB M ps = true) (hd : demB M ps dm = true) (hvs : hsB M hs = true) (hne : hdR need = true) (hR : hdR v = true) (hv : v = mstK (prL M ps s dm 0 hs) need M) (hM : 0 < M) (hl : v = need - loK (prL M ps s dm 0 hs) M) :
    (∀ (A : Option Addr) (c : Nat) (AD : Option Addr) (dc : Nat) (AH : Option Addr) (ch : Nat) (w : World), PAt w A ps → ps.length ≤ c → IAt w AD dm → IAt w AH hs → Calls Try.prog 28 #[nv M A ps.length c, .int .i64 s, .slice AD dm.length dc, .int .i64 v, .slice AH hs.length ch, .int .i64 need] w (GivesI w [] true)) ∧
    ∃ (L : List Int) (ok : Bool), (ok = true → L.length ≠ 0) ∧ L.length ≤ 8 ∧ (∀ (A : Option Addr) (c : Nat) (AD : Option Addr) (dc : Nat) (AH : Option Addr) (ch : Nat) (w : World), PAt w A ps → ps.length ≤ c → IAt w AD dm → IAt w AH hs → Calls Try.prog 28 #[nv M A ps.length c, .int .i64 s, .slice AD dm.length dc, .int .i64 (v - 1), .slice AH hs.length ch, .int .i64 need] w (GivesI w L ok)) := by
  obtain ⟨hw1, hw2⟩ := wk_needed hM hv hl
  constructor
  · obtain ⟨L, ok, _, hT, hiff, hL⟩ := wk_pack M ps s dm v hs need hm hdl hil
    have hok : ok = true := hiff.2 ⟨wk_ask hn ht hd hvs hR, hne⟩
    obtain ⟨N', s', hN, hs, hLe⟩ := hL hok
    have e1 : M = N' := by omega
    have e2 : s = s' := by omega
    subst e1; subst e2
    rw [hw1] at hLe
    subst hLe; subst hok
    exact fun A c AD dc AH ch w h hc hd hi => (hT A c AD dc AH ch w h hc hd hi).1
  · obtain ⟨L, ok, h8, hT, _, hL⟩ := wk_pack M ps s dm (v - 1) hs need hm hdl hil
    refine ⟨L, ok, fun hok => ?_, h8, fun A c AD dc AH ch w h hc hd hi => (hT A c AD dc AH ch w h hc hd hi).1⟩
    obtain ⟨N', s', hN, hs, hLe⟩ := hL hok
    have e1 : M = N' := by omega
    have e2 : s = s' := by omega
    subst e1; subst e2
    rw [hLe]
    exact fun h0 => hw2 (List.length_eq_zero_iff.1 h0)
end Go.Proofs.Ytlkomipjamelkab.S2
