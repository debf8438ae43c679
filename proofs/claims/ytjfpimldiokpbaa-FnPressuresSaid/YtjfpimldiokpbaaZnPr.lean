/- PressuresAt and RaisePlaces of the program and of the model: contracts. Conditions: each theorem's own premises. -/
import Derived.Test.YtjfpimldiokpbaaZnSl
namespace Go.Proofs.Ytjfpimldiokpbaa.S12
open Go.RowKit Go.Sort P12

/-- A row of n numbers of which the first k are written. -/
def fiK (f : Nat → Int) (n k : Nat) : List Value := ((List.range k).map fun i => iv (f i)) ++ List.replicate (n - k) (iv 0)
theorem fiK_len (f : Nat → Int) (n k : Nat) (h : k ≤ n) : (fiK f n k).length = n := by simp [fiK]; omega
theorem fiK_set (f : Nat → Int) (n k : Nat) (h : k < n) : (fiK f n k).set k (iv (f k)) = fiK f n (k + 1) := by
  unfold fiK
  have e1 : ((List.range k).map fun i => iv (f i)).length = k := by simp
  have e2 : n - k = (n - (k + 1)) + 1 := by omega
  rw [List.set_append_right _ _ (by omega), e1, Nat.sub_self, e2, List.replicate_succ, List.set_cons_zero, List.range_succ, List.map_append]
  simp
theorem fiK_has (f : Nat → Int) (n k : Nat) (h : k < n) : ∃ u, (fiK f n k)[k]? = some u := ⟨_, List.getElem?_eq_getElem (by rw [fiK_len f n k (by omega)]; exact h)⟩
theorem fiK_full (f : Nat → Int) (n : Nat) : fiK f n n = ((List.range n).map f).map iv := by simp [fiK]
theorem made_k (f : Nat → Int) (n : Nat) (w : World) (hn : n ≤ 1048576) : (w.alloc (.cells (madeCells #[.int .i64 0] n) 3)).ownsRow w.heap.size 3 1 (.slice (some ⟨w.heap.size, 0, none⟩) n n) n (fiK f n 0) := by
  have hs : (madeCells #[Value.int .i64 0] n).toList = List.replicate n (iv 0) := toList_madeCells_one _ _
  have hz : (madeCells #[Value.int .i64 0] n).size = n := by rw [← Array.length_toList, hs]; simp
  refine ⟨by simp [fiK], .inr ⟨w.heap.size, n, madeCells #[.int .i64 0] n, rfl, Nat.le_refl _, heap_alloc_new w _, Nat.le_refl _, by unfold maxLen; omega, by simpa using hz, ?_⟩⟩
  simp [fiK, hs]
theorem made_run (n : Nat) (hn : n ≤ 1048576) : ∀ wx : World, (Instr.makeSlice 28 (.int .i64 (n : Int)) (.int .i64 (n : Int))).run Try.prog wx = .ok (.slice (some ⟨wx.heap.size, 0, none⟩) n n) (wx.alloc (.cells (madeCells #[.int .i64 0] n) 3)) := fun wx => run_make_row' (P := Try.prog) 28 3 (.int .i64 0) 8 Try.underlying28 infoI rfl .i64 .i64 n (by omega) (by omega) wx
theorem own_fi {w : World} {B g n : Nat} {f : Nat → Int} (h : w.ownsRow B 3 1 (.slice (some ⟨g, 0, none⟩) n n) n (fiK f n n)) : IOwn w B (.slice (some ⟨g, 0, none⟩) ((List.range n).map f).length n) ((List.range n).map f) := by
  unfold IOwn
  rw [List.length_map, List.length_range, ← fiK_full]
  exact h
def prB (l : List Int) (h : Int) : Bool := plB l && lvB h
def mtB (m : Int) : Bool := inR (-1000) 1000 m
theorem mtB_iff {m : Int} : mtB m = true ↔ -1000 ≤ m ∧ m ≤ 1000 := by unfold mtB inR; exact decide_eq_true_iff
theorem prK_map (l : List Int) (h : Int) (n : Nat) : prK l h n = (List.range n).map fun i => h - l.getD i 0 := rfl
theorem rsK_map (l : List Int) (m : Int) (n : Nat) : rsK l m n = (List.range n).map fun i => l.getD i 0 + m := rfl
set_option maxHeartbeats 1000000 in
theorem pr_no (A : Option Addr) (cap : Nat) (l : List Int) (h : Int) (w : World) (hI : IAt w A l) (hl : l.length ≤ 1048576) (hv : prB l h = false) :
    Calls Try.prog 30 #[.slice A l.length cap, .int .i64 h] w (GivesI w [] false) := by
  have HA := Lib.hid (pl_any A cap l w hI hl)
  have HL := Lib.hid (fun w => lv_any h w)
  unfold prB at hv
  clear hI
  generalize plB l = v1 at *
  generalize lvB h = v2 at *
  cases v1 with
  | false =>
    clear hv
    go_enter Try.func30, Try.ntmps30
    go_wp2_with (go_at_call 63; refine HA.out.mono ?_; rintro e w1 ⟨rfl, hb1⟩; have HB1 := Lib.hid hb1; clear hb1)
    go_ret2
    exact gives_none HB1.out
  | true =>
    rw [Bool.true_and] at hv
    subst hv
    go_enter Try.func30, Try.ntmps30
    go_wp2_with (first
      | (go_at_call 63; refine HA.out.mono ?_; rintro e w1 ⟨rfl, hb1⟩; have HB1 := Lib.hid hb1; clear hb1)
      | (go_at_call 50; refine (HL.out _).mono ?_; rintro e w2 ⟨rfl, hw⟩; replace hw := hw.symm; subst hw))
    go_ret2
    exact gives_none HB1.out
set_option maxHeartbeats 2000000 in
theorem pr_yes (A : Option Addr) (cap : Nat) (l : List Int) (h : Int) (w : World) (hI : IAt w A l) (hl : l.length ≤ 1048576) (hq : Pl l) (hh : lvB h = true) :
    Calls Try.prog 30 #[.slice A l.length cap, .int .i64 h] w (GivesI w (prK l h l.length) true) := by
  have HA := Lib.hid (pl_v (plB_iff.2 hq) A cap w hI hl)
  have HL := Lib.hid (fun w => lv_any h w)
  rw [hh] at HL
  obtain ⟨h0, h1⟩ := lvB_iff.1 hh
  have HIK := Lib.hid (fun w' (hb : Below w.heap.size w w') => hI.kept hb (Nat.le_refl _))
  have HAT := Lib.hid (fun i (hi : i < l.length) => hq.at_ hi)
  have hmk := made_run l.length hl
  clear hI hh hq
  rw [prK_map]
  go_enter Try.func30, Try.ntmps30
  go_upto_region 3 with (first
    | (go_at_call 63; refine HA.out.mono ?_; rintro e w1 ⟨rfl, hb1⟩; have HB1 := Lib.hid hb1; clear hb1)
    | (go_at_call 50; refine (HL.out _).mono ?_; rintro e w2 ⟨rfl, hw⟩; replace hw := hw.symm; subst hw)
    | fail)
  have HO0 := Lib.hid (made_k (fun i => h - l.getD i 0) l.length w1 hl)
  have HBA := Lib.hid (alloc_below w1 (.cells (madeCells #[.int .i64 0] l.length) 3))
  go_wp2
  clear hmk
  go_loopw [23] (fun i wr => ∃ k : Nat, k ≤ l.length ∧ i = .int .i64 k ∧ Hid (wr.ownsRow w1.heap.size 3 1 (.slice (some ⟨w1.heap.size, 0, none⟩) l.length l.length) l.length (fiK (fun i => h - l.getD i 0) l.length k)) ∧ Hid (Below w1.heap.size w1 wr)) (fun i _ => l.length - (intOf i).toNat)
  case atStart => exact ⟨0, Nat.zero_le _, rfl, HO0, HBA⟩
  case round =>
    clear HO0 HBA
    obtain ⟨k, hk, rfl, hown, hB⟩ := hrel
    by_cases hlt : k < l.length
    · obtain ⟨b, off, hA, hbl, hx⟩ := (HIK.out _ (HB1.out.trans (hB.out.mono HB1.out.size))).at_ hlt
      subst hA
      obtain ⟨x0, x1⟩ := HAT.out k hlt
      have hk0 : (0 : Int) ≤ (k : Int) := by omega
      have hkn : (k : Int) < (l.length : Int) := by omega
      obtain ⟨u, hu⟩ := fiK_has (fun i => h - l.getD i 0) l.length k hlt
      have hcell := (hown.out.cellAt k (by omega)).trans hu
      have hfz := hown.out.frozenAt k
      have HST := Lib.hid (fiK_set (fun i => h - l.getD i 0) l.length k hlt)
      have hst0 := Lib.hid (hown.out.stored k (iv ((fun i => h - l.getD i 0) k)))
      have hB3 := Lib.hid (hB.out.setCell (p := ⟨w1.heap.size, k, none⟩) (Nat.le_refl _) (iv ((fun i => h - l.getD i 0) k)))
      clear hu hown hB
      dsimp only at hst0 HST hB3
      have hst := hst0.out
      rw [HST.out] at hst
      have HS9 := Lib.hid hst.1
      clear hst hst0 HST
      have hs : IntKind.i64.wrap (h - l.getD k 0) = h - l.getD k 0 := IntWalk.i64_in _ (by omega)
      generalize l.getD k 0 = x at *
      go_wp2
      go_roundw
      case rel => exact ⟨k + 1, by omega, by go_num, HS9, hB3⟩
      case measure => simp [intOf]; omega
    · have e : k = l.length := by omega
      subst e
      have HOF := Lib.hid (own_fi hown.out)
      have HBF := Lib.hid (HB1.out.trans (hB.out.mono HB1.out.size))
      have hs1 := HB1.out.size
      have hgF := iown_lt' HOF.out
      clear hown hB
      go_wp2
      go_ret2
      refine ⟨w1.heap.size, l.length, ?_, hs1, own_lower HOF.out hs1, HBF.out⟩
      rw [List.length_map, List.length_range]
      rfl
set_option maxHeartbeats 1000000 in
theorem rs_no (A : Option Addr) (cap : Nat) (l : List Int) (m : Int) (w : World) (hI : IAt w A l) (hl : l.length ≤ 1048576) (hv : plB l = false ∨ mtB m = false) :
    Calls Try.prog 36 #[.slice A l.length cap, .int .i64 m] w (GivesI w [] false) := by
  have HA := Lib.hid (pl_any A cap l w hI hl)
  clear hI
  generalize plB l = v1 at *
  cases v1 with
  | false =>
    clear hv
    go_enter Try.func36, Try.ntmps36
    go_wp2_with (go_at_call 63; refine HA.out.mono ?_; rintro e w1 ⟨rfl, hb1⟩; have HB1 := Lib.hid hb1; clear hb1)
    go_ret2
    exact gives_none HB1.out
  | true =>
    have hm : ¬ (-1000 ≤ m ∧ m ≤ 1000) := by
      rcases hv with h | h
      · cases h
      · rw [← mtB_iff, h]; simp
    clear hv
    by_cases h1 : m < -1000
    · have g1 : decide (m < -1000) = true := by simp [h1]
      go_enter Try.func36, Try.ntmps36
      go_wp2_with (go_at_call 63; refine HA.out.mono ?_; rintro e w1 ⟨rfl, hb1⟩; have HB1 := Lib.hid hb1; clear hb1)
      go_ret2
      exact gives_none HB1.out
    · have g1 : decide (m < -1000) = false := by simp; omega
      have g2 : decide (1000 < m) = true := by simp; omega
      clear hm h1
      go_enter Try.func36, Try.ntmps36
      go_wp2_with (go_at_call 63; refine HA.out.mono ?_; rintro e w1 ⟨rfl, hb1⟩; have HB1 := Lib.hid hb1; clear hb1)
      go_ret2
      exact gives_none HB1.out
theorem pl_same {w : World} {A : Option Addr} {n cap : Nat} {L : List Int} (hn : n = L.length) (hI : IAt w A L) (hl : L.length ≤ 1048576) :
    Calls Try.prog 63 #[.slice A n cap] w fun e w' => e = .returned (.bool (plB L)) ∧ Below w.heap.size w w' := by
  subst hn; exact pl_any A cap L w hI hl
theorem spl_same {w : World} {A : Option Addr} {n cap : Nat} {L : List Int} (hn : n = L.length) (hI : IAt w A L) (hl : L.length ≤ 1048576) :
    Calls Try.prog 62 #[.slice A n cap] w fun e w' => e = .returned (.bool (plB L)) ∧ Below w.heap.size w w' := by
  subst hn; exact spl_any A cap L w hI hl
set_option maxHeartbeats 2000000 in
theorem rs_true (A : Option Addr) (cap : Nat) (l : List Int) (m : Int) (w : World) (hI : IAt w A l) (hl : l.length ≤ 1048576) (hq : Pl l) (hm : mtB m = true) (hp : plB (rsK l m l.length) = true) :
    Calls Try.prog 36 #[.slice A l.length cap, .int .i64 m] w (GivesI w (rsK l m l.length) true) := by
  have HA := Lib.hid (pl_v (plB_iff.2 hq) A cap w hI hl)
  obtain ⟨h0, h1⟩ := mtB_iff.1 hm
  have g1 : decide (m < -1000) = false := by simp; omega
  have g2 : decide (1000 < m) = false := by simp; omega
  have hn12 := hq.n
  have HIK := Lib.hid (fun w' (hb : Below w.heap.size w w') => hI.kept hb (Nat.le_refl _))
  have HAT := Lib.hid (fun i (hi : i < l.length) => hq.at_ hi)
  have hmk := made_run l.length hl
  clear hI hm hq
  have HPV := Lib.hid hp
  clear hp
  rw [rsK_map] at *
  go_enter Try.func36, Try.ntmps36
  go_upto_region 3 with (first
    | (go_at_call 63; refine HA.out.mono ?_; rintro e w1 ⟨rfl, hb1⟩; have HB1 := Lib.hid hb1; clear hb1)
    | fail)
  have HO0 := Lib.hid (made_k (fun i => l.getD i 0 + m) l.length w1 hl)
  have HBA := Lib.hid (alloc_below w1 (.cells (madeCells #[.int .i64 0] l.length) 3))
  clear HA g1 g2
  go_wp2
  clear hmk
  go_loopw [26] (fun i wr => ∃ k : Nat, k ≤ l.length ∧ i = .int .i64 k ∧ Hid (wr.ownsRow w1.heap.size 3 1 (.slice (some ⟨w1.heap.size, 0, none⟩) l.length l.length) l.length (fiK (fun i => l.getD i 0 + m) l.length k)) ∧ Hid (Below w1.heap.size w1 wr)) (fun i _ => l.length - (intOf i).toNat)
  case atStart => exact ⟨0, Nat.zero_le _, rfl, HO0, HBA⟩
  case round =>
    clear HO0 HBA
    obtain ⟨k, hk, rfl, hown, hB⟩ := hrel
    by_cases hlt : k < l.length
    · obtain ⟨b, off, hA, hbl, hx⟩ := (HIK.out _ (HB1.out.trans (hB.out.mono HB1.out.size))).at_ hlt
      subst hA
      obtain ⟨x0, x1⟩ := HAT.out k hlt
      have hk0 : (0 : Int) ≤ (k : Int) := by omega
      have hkn : (k : Int) < (l.length : Int) := by omega
      obtain ⟨u, hu⟩ := fiK_has (fun i => l.getD i 0 + m) l.length k hlt
      have hcell := (hown.out.cellAt k (by omega)).trans hu
      have hfz := hown.out.frozenAt k
      have HST := Lib.hid (fiK_set (fun i => l.getD i 0 + m) l.length k hlt)
      have hst0 := Lib.hid (hown.out.stored k (iv ((fun i => l.getD i 0 + m) k)))
      have hB3 := Lib.hid (hB.out.setCell (p := ⟨w1.heap.size, k, none⟩) (Nat.le_refl _) (iv ((fun i => l.getD i 0 + m) k)))
      clear hu hown hB
      dsimp only at hst0 HST hB3
      have hst := hst0.out
      rw [HST.out] at hst
      have HS9 := Lib.hid hst.1
      clear hst hst0 HST
      have hs : IntKind.i64.wrap (l.getD k 0 + m) = l.getD k 0 + m := IntWalk.i64_in _ (by omega)
      generalize l.getD k 0 = x at *
      go_wp2
      go_roundw
      case rel => exact ⟨k + 1, by omega, by go_num, HS9, hB3⟩
      case measure => simp [intOf]; omega
    · have e : k = l.length := by omega
      subst e
      have HOF := Lib.hid (own_fi hown.out)
      have HBF := Lib.hid (HB1.out.trans (hB.out.mono HB1.out.size))
      have hs1 := HB1.out.size
      have hgF := iown_lt' HOF.out
      clear hown hB
      have hLen : l.length = ((List.range l.length).map fun i => l.getD i 0 + m).length := by simp
      have hP := pl_same (cap := l.length) hLen HOF.out.iat (by rw [← hLen]; omega)
      rw [HPV.out] at hP
      have HP := Lib.hid hP
      have HLen := Lib.hid hLen
      clear hLen hP
      go_wp2_with (go_at_call 63; refine HP.out.mono ?_; rintro e w3 ⟨rfl, hb3⟩; have HB3 := Lib.hid (HBF.out.trans (hb3.mono HBF.out.size)); have HO3 := Lib.hid (HOF.out.on hb3); clear hb3)
      go_ret2
      exact ⟨w1.heap.size, l.length, by rw [← HLen.out]; rfl, hs1, own_lower HO3.out hs1, HB3.out⟩
set_option maxHeartbeats 2000000 in
theorem rs_false (A : Option Addr) (cap : Nat) (l : List Int) (m : Int) (w : World) (hI : IAt w A l) (hl : l.length ≤ 1048576) (hq : Pl l) (hm : mtB m = true) (hp : plB (rsK l m l.length) = false) :
    Calls Try.prog 36 #[.slice A l.length cap, .int .i64 m] w (GivesI w ([]) false) := by
  have HA := Lib.hid (pl_v (plB_iff.2 hq) A cap w hI hl)
  obtain ⟨h0, h1⟩ := mtB_iff.1 hm
  have g1 : decide (m < -1000) = false := by simp; omega
  have g2 : decide (1000 < m) = false := by simp; omega
  have hn12 := hq.n
  have HIK := Lib.hid (fun w' (hb : Below w.heap.size w w') => hI.kept hb (Nat.le_refl _))
  have HAT := Lib.hid (fun i (hi : i < l.length) => hq.at_ hi)
  have hmk := made_run l.length hl
  clear hI hm hq
  have HPV := Lib.hid hp
  clear hp
  rw [rsK_map] at *
  go_enter Try.func36, Try.ntmps36
  go_upto_region 3 with (first
    | (go_at_call 63; refine HA.out.mono ?_; rintro e w1 ⟨rfl, hb1⟩; have HB1 := Lib.hid hb1; clear hb1)
    | fail)
  have HO0 := Lib.hid (made_k (fun i => l.getD i 0 + m) l.length w1 hl)
  have HBA := Lib.hid (alloc_below w1 (.cells (madeCells #[.int .i64 0] l.length) 3))
  clear HA g1 g2
  go_wp2
  clear hmk
  go_loopw [26] (fun i wr => ∃ k : Nat, k ≤ l.length ∧ i = .int .i64 k ∧ Hid (wr.ownsRow w1.heap.size 3 1 (.slice (some ⟨w1.heap.size, 0, none⟩) l.length l.length) l.length (fiK (fun i => l.getD i 0 + m) l.length k)) ∧ Hid (Below w1.heap.size w1 wr)) (fun i _ => l.length - (intOf i).toNat)
  case atStart => exact ⟨0, Nat.zero_le _, rfl, HO0, HBA⟩
  case round =>
    clear HO0 HBA
    obtain ⟨k, hk, rfl, hown, hB⟩ := hrel
    by_cases hlt : k < l.length
    · obtain ⟨b, off, hA, hbl, hx⟩ := (HIK.out _ (HB1.out.trans (hB.out.mono HB1.out.size))).at_ hlt
      subst hA
      obtain ⟨x0, x1⟩ := HAT.out k hlt
      have hk0 : (0 : Int) ≤ (k : Int) := by omega
      have hkn : (k : Int) < (l.length : Int) := by omega
      obtain ⟨u, hu⟩ := fiK_has (fun i => l.getD i 0 + m) l.length k hlt
      have hcell := (hown.out.cellAt k (by omega)).trans hu
      have hfz := hown.out.frozenAt k
      have HST := Lib.hid (fiK_set (fun i => l.getD i 0 + m) l.length k hlt)
      have hst0 := Lib.hid (hown.out.stored k (iv ((fun i => l.getD i 0 + m) k)))
      have hB3 := Lib.hid (hB.out.setCell (p := ⟨w1.heap.size, k, none⟩) (Nat.le_refl _) (iv ((fun i => l.getD i 0 + m) k)))
      clear hu hown hB
      dsimp only at hst0 HST hB3
      have hst := hst0.out
      rw [HST.out] at hst
      have HS9 := Lib.hid hst.1
      clear hst hst0 HST
      have hs : IntKind.i64.wrap (l.getD k 0 + m) = l.getD k 0 + m := IntWalk.i64_in _ (by omega)
      generalize l.getD k 0 = x at *
      go_wp2
      go_roundw
      case rel => exact ⟨k + 1, by omega, by go_num, HS9, hB3⟩
      case measure => simp [intOf]; omega
    · have e : k = l.length := by omega
      subst e
      have HOF := Lib.hid (own_fi hown.out)
      have HBF := Lib.hid (HB1.out.trans (hB.out.mono HB1.out.size))
      have hs1 := HB1.out.size
      have hgF := iown_lt' HOF.out
      clear hown hB
      have hLen : l.length = ((List.range l.length).map fun i => l.getD i 0 + m).length := by simp
      have hP := pl_same (cap := l.length) hLen HOF.out.iat (by rw [← hLen]; omega)
      rw [HPV.out] at hP
      have HP := Lib.hid hP
      have HLen := Lib.hid hLen
      clear hLen hP
      go_wp2_with (go_at_call 63; refine HP.out.mono ?_; rintro e w3 ⟨rfl, hb3⟩; have HB3 := Lib.hid (HBF.out.trans (hb3.mono HBF.out.size)); have HO3 := Lib.hid (HOF.out.on hb3); clear hb3)
      go_ret2
      exact gives_none HB3.out
end Go.Proofs.Ytjfpimldiokpbaa.S12
