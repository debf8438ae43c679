/- FewestLevels of the model; ZoneOf of the program and of the model: contracts. Conditions: each theorem's own premises. -/
import Derived.Test.YtjfpimldiokpbaaZnFw
import Derived.Test.YtjfpimldiokpbaaZnLv
namespace Go.Proofs.Ytjfpimldiokpbaa.S12
open Go.RowKit Go.Sort P12

theorem zi_no {a b : Int} {L : List Int} {x : Int} {j : Nat} (h : j < zi a b L x) : suB x a b (L.getD j 0) = false := by
  unfold zi at h
  have hl : j < L.length := Nat.lt_of_lt_of_le h List.findIdx_le_length
  have h2 := List.not_of_lt_findIdx h
  have e : L.getD j 0 = L[j] := by simp [List.getD, hl]
  rw [e]
  simpa using h2
set_option maxHeartbeats 1000000 in
theorem sfw_no (A : Option Addr) (cap : Nat) (l : List Int) (a b : Int) (w : World) (hI : IAt w A l) (hl : l.length ≤ 1048576) (hv : askB l a b = false) :
    Calls Try.prog 25 #[.slice A l.length cap, rv a b] w (GivesI w [] false) := by
  have HB0 := Lib.hid (alloc_below w (rb 25 a b))
  have HA := Lib.hid (fun w' (hb : Below w.heap.size w w') => sask_v hv A cap w' (hI.kept hb (Nat.le_refl _)) hl)
  have HT0 := Lib.hid (BT.new w 25 a b)
  clear hI hv
  go_enter Try.func25, Try.ntmps25
  refine Hid.out ?_
  obtain ⟨_, q0, q1⟩ := HT0.out
  refine Lib.hid ?_
  go_wp2_with (go_at_call 46; refine (HA.out _ HB0.out).mono ?_; rintro e w1 ⟨rfl, hb1⟩; have HB1 := Lib.hid (HB0.out.trans (hb1.mono HB0.out.size)); clear hb1)
  go_ret2
  exact gives_none HB1.out
set_option maxHeartbeats 1000000 in
theorem sfw_yes (A : Option Addr) (cap : Nat) (l : List Int) (a b : Int) (w : World) (hI : IAt w A l) (hl : l.length ≤ 1048576) (hq : ZAsk l a b) :
    Calls Try.prog 25 #[.slice A l.length cap, rv a b] w (GivesI w (fewL l a b) true) := by
  have HB0 := Lib.hid (alloc_below w (rb 25 a b))
  have HA := Lib.hid (fun w' (hb : Below w.heap.size w w') => sask_v (askB_iff.2 hq) A cap w' (hI.kept hb (Nat.le_refl _)) hl)
  have HS := Lib.hid (fun w' (hb : Below w.heap.size w w') => slev_any A cap l a b w' (hI.kept hb (Nat.le_refl _)) hq)
  have HT0 := Lib.hid (BT.new w 25 a b)
  clear hI hq
  generalize fewL l a b = L at *
  go_enter Try.func25, Try.ntmps25
  refine Hid.out ?_
  obtain ⟨_, q0, q1⟩ := HT0.out
  refine Lib.hid ?_
  go_wp2_with (first
    | (go_at_call 46; refine (HA.out _ HB0.out).mono ?_; rintro e w1 ⟨rfl, hb1⟩; have HB1 := Lib.hid (HB0.out.trans (hb1.mono HB0.out.size)); clear q0 q1; obtain ⟨_, q0, q1⟩ := HT0.out.kept hb1; clear hb1)
    | (go_at_call 57; refine (HS.out _ HB1.out).mono ?_; rintro e w3 ⟨g, c, rfl, hg, hO, hb3⟩; have HO := Lib.hid hO; have HB3 := Lib.hid (HB1.out.trans (hb3.mono HB1.out.size)); have hg2 : w.heap.size ≤ g := Nat.le_trans HB1.out.size hg; have hs1 := HB1.out.size; clear hO hb3))
  go_ret2
  exact ⟨g, c, rfl, hg2, own_lower HO.out hs1, HB3.out⟩

/-! ### ZoneOf of the program -/
set_option maxHeartbeats 1000000 in
theorem ix_any (A : Option Addr) (cap : Nat) (L : List Int) (x a b : Int) (w : World) (h : IAt w A L) (hl : L.length ≤ 1048576) (hz : zi a b L x < L.length) (hs : suB x a b (L.getD (zi a b L x) 0) = true) :
    Calls Try.prog 61 #[.slice A L.length cap, .func (.func 59) #[.agg #[.int .i64 (x + a), .int .i64 (x + b)]] #[]] w fun e w' => e = .returned (.int .i64 ((zi a b L x : Nat) : Int)) ∧ Below w.heap.size w w' := by
  have HK := Lib.hid (fun w' (hb : Below w.heap.size w w') => h.kept hb (Nat.le_refl _))
  have HC := Lib.hid (fun y w => has_su x a b y w)
  have HZ := Lib.hid (fun (j : Nat) (hj : j < zi a b L x) => zi_no hj)
  have HS := Lib.hid hs
  clear h hs
  generalize zi a b L x = z at *
  go_enter Try.func61, Try.ntmps61
  go_wp2
  go_loopw [8] (fun i wr => ∃ k : Nat, k ≤ z ∧ i = .int .i64 (k : Int) ∧ Hid (Below w.heap.size w wr)) (fun i _ => L.length - (intOf i).toNat)
  case atStart => exact ⟨0, Nat.zero_le _, rfl, Lib.hid (Below.refl _ _)⟩
  case round =>
    obtain ⟨k, hk, rfl, hB⟩ := hrel
    have hlt : k < L.length := by omega
    obtain ⟨bb, off, hA, hbl, h0⟩ := (HK.out _ hB.out).at_ hlt
    subst hA
    have hk0 : (0 : Int) ≤ (k : Int) := by omega
    have hkn : (k : Int) < (L.length : Int) := by omega
    have hzB := hB.out.size
    by_cases hkz : k = z
    · subst hkz
      have HC1 := Lib.hid (HC.out (L.getD k 0))
      rw [HS.out] at HC1
      clear HS HZ HC
      generalize L.getD k 0 = y at *
      go_wp2_with (go_at_call 59; refine (HC1.out _).mono ?_; rintro e w1 ⟨rfl, hb1⟩; have HB1 := Lib.hid (hB.out.trans (hb1.mono hzB)); clear hb1)
      go_ret
      exact ⟨rfl, HB1.out⟩
    · have HC1 := Lib.hid (HC.out (L.getD k 0))
      rw [HZ.out k (by omega)] at HC1
      clear HC
      generalize L.getD k 0 = y at *
      go_wp2_with (go_at_call 59; refine (HC1.out _).mono ?_; rintro e w1 ⟨rfl, hb1⟩; have HB1 := Lib.hid (hB.out.trans (hb1.mono hzB)); clear hb1)
      go_roundw
      case rel => exact ⟨k + 1, by omega, by go_num, HB1⟩
      case measure => simp [intOf]; omega
set_option maxHeartbeats 1000000 in
theorem zo_no (A : Option Addr) (cap : Nat) (l : List Int) (a b : Int) (w : World) (hI : IAt w A l) (hl : l.length ≤ 1048576) (hv : askB l a b = false) :
    Calls Try.prog 28 #[.slice A l.length cap, rv a b] w (GivesI w [] false) := by
  have HB0 := Lib.hid (alloc_below w (rb 25 a b))
  have HA := Lib.hid (fun w' (hb : Below w.heap.size w w') => fw_no A cap l a b w' (hI.kept hb (Nat.le_refl _)) hl hv)
  have HT0 := Lib.hid (BT.new w 25 a b)
  clear hI hv
  go_enter Try.func28, Try.ntmps28
  refine Hid.out ?_
  obtain ⟨_, q0, q1⟩ := HT0.out
  refine Lib.hid ?_
  go_wp2_with (go_at_call 26; refine (HA.out _ HB0.out).mono ?_; rintro e w1 ⟨g, c, rfl, hg, hO, hb1⟩; have HB1 := Lib.hid (HB0.out.trans (hb1.mono HB0.out.size)); clear hb1 hO hg)
  go_ret2
  exact gives_none HB1.out
set_option maxHeartbeats 4000000 in
set_option maxRecDepth 100000 in
theorem zo_yes (A : Option Addr) (cap : Nat) (l : List Int) (a b : Int) (w : World) (hI : IAt w A l) (hl : l.length ≤ 1048576) (hq : ZAsk l a b) :
    Calls Try.prog 28 #[.slice A l.length cap, rv a b] w (GivesI w (znL l a b) true) := by
  have HB0 := Lib.hid (alloc_below w (rb 25 a b))
  have HA := Lib.hid (fun w' (hb : Below w.heap.size w w') => fw_yes A cap l a b w' (hI.kept hb (Nat.le_refl _)) hl hq)
  have HT0 := Lib.hid (BT.new w 25 a b)
  have HIK := Lib.hid (fun w' (hb : Below w.heap.size w w') => hI.kept hb (Nat.le_refl _))
  have HAT := Lib.hid (fun i (hi : i < l.length) => hq.toPl.at_ hi)
  have ha1 := hq.a1
  have hab := hq.ab
  have hb1 := hq.b1
  have HZL := Lib.hid (fun (i : Nat) (hi : i < l.length) => zn_in (l := l) hab hi)
  have HZS := Lib.hid (fun (i : Nat) (hi : i < l.length) => zn_su (l := l) hab hi)
  have hmk := made_run l.length hl
  have hLL : (fewL l a b).length ≤ 1048576 := Nat.le_trans (few_len hab) hl
  unfold znL
  clear hI hq
  generalize fewL l a b = L at *
  rw [show znK l a b L l.length = (List.range l.length).map fun i => ((zi a b L (l.getD i 0) : Nat) : Int) from rfl]
  go_enter Try.func28, Try.ntmps28
  refine Hid.out ?_
  obtain ⟨_, q0, q1⟩ := HT0.out
  refine Lib.hid ?_
  go_upto_region 4 with (first
    | (go_at_call 26; refine (HA.out _ HB0.out).mono ?_; rintro e w1 ⟨g, c, rfl, hg, hO, hb1⟩; have HB1 := Lib.hid (HB0.out.trans (hb1.mono HB0.out.size)); have HT1 := Lib.hid (HT0.out.kept hb1); have HL1 := Lib.hid (fun w' (hb : Below w1.heap.size w1 w') => hO.iat.kept hb (Nat.le_refl _)); clear hb1 hO)
    | fail)
  clear q0 q1 HA HB0
  have HO0 := Lib.hid (made_k (fun i => ((zi a b L (l.getD i 0) : Nat) : Int)) l.length w1 hl)
  have HBA := Lib.hid (alloc_below w1 (.cells (madeCells #[.int .i64 0] l.length) 3))
  go_wp2
  clear hmk
  go_loopw [25] (fun i wr => ∃ k : Nat, k ≤ l.length ∧ i = .int .i64 k ∧ Hid (wr.ownsRow w1.heap.size 3 1 (.slice (some ⟨w1.heap.size, 0, none⟩) l.length l.length) l.length (fiK (fun i => ((zi a b L (l.getD i 0) : Nat) : Int)) l.length k)) ∧ Hid (Below w1.heap.size w1 wr)) (fun i _ => l.length - (intOf i).toNat)
  case atStart => exact ⟨0, Nat.zero_le _, rfl, HO0, HBA⟩
  case round =>
    clear HO0 HBA
    obtain ⟨k, hk, rfl, hown, hB⟩ := hrel
    by_cases hlt : k < l.length
    · obtain ⟨bb, off, hA, hbl, hx⟩ := (HIK.out _ (HB1.out.trans (hB.out.mono HB1.out.size))).at_ hlt
      subst hA
      obtain ⟨q9, q0, q1⟩ := HT1.out.kept hB.out
      obtain ⟨x0, x1⟩ := HAT.out k hlt
      have hk0 : (0 : Int) ≤ (k : Int) := by omega
      have hkn : (k : Int) < (l.length : Int) := by omega
      have hzB := hB.out.size
      obtain ⟨u, hu⟩ := fiK_has (fun i => ((zi a b L (l.getD i 0) : Nat) : Int)) l.length k hlt
      have HST := Lib.hid (fiK_set (fun i => ((zi a b L (l.getD i 0) : Nat) : Int)) l.length k hlt)
      have HC := Lib.hid (fun w' => lev_lit (l.getD k 0) a b w' ⟨x0, x1⟩ (by omega) (by omega))
      have HX := Lib.hid (fun w' (hb : Below w1.heap.size w1 w') => ix_any (some ⟨g, 0, none⟩) c L (l.getD k 0) a b w' (HL1.out w' hb) hLL (HZL.out k hlt) (HZS.out k hlt))
      have HU := Lib.hid hu
      clear hu
      obtain ⟨F0, hF0⟩ : ∃ F, F = fiK (fun i => ((zi a b L (l.getD i 0) : Nat) : Int)) l.length k := ⟨_, rfl⟩
      obtain ⟨F1, hF1⟩ : ∃ F, F = fiK (fun i => ((zi a b L (l.getD i 0) : Nat) : Int)) l.length (k + 1) := ⟨_, rfl⟩
      rw [← hF0] at HU hown
      rw [← hF0, ← hF1] at HST
      have HF1 := Lib.hid hF1
      clear hF0 hF1
      generalize zi a b L (l.getD k 0) = z at *
      generalize l.getD k 0 = x at *
      refine Hid.out ?_
      refine Lib.hid ?_
      go_wp2_with (first
        | (go_at_call 54; refine (HC.out _).mono ?_; rintro e wx ⟨rfl, hbx⟩; have HBX := Lib.hid (hB.out.trans (hbx.mono hzB)); have HRX := Lib.hid hbx; clear hbx)
        | (go_at_call 61; refine (HX.out _ HBX.out).mono ?_; rintro e wy ⟨rfl, hby⟩; have HBY := Lib.hid (HBX.out.trans (hby.mono HBX.out.size)); have HRY := Lib.hid (HRX.out.trans (hby.mono HRX.out.size)); have hoY := own_on hown.out HRY.out; have hcell := (hoY.cellAt k (by omega)).trans HU.out; have hfz := hoY.frozenAt k; have HOY := Lib.hid hoY; clear hby hoY)
        | fail)
      have hst := HOY.out.stored k (iv ((z : Nat) : Int))
      rw [HST.out] at hst
      have HS9 := Lib.hid hst.1
      have hB3 := Lib.hid (HBY.out.setCell (p := ⟨w1.heap.size, k, none⟩) (Nat.le_refl _) (iv ((z : Nat) : Int)))
      clear hst
      go_roundw
      case rel => exact ⟨k + 1, by omega, by go_num, by rw [← HF1.out]; exact HS9, hB3⟩
      case measure => simp [intOf]; omega
    · have e : k = l.length := by omega
      subst e
      have HOF := Lib.hid (own_fi hown.out)
      have HBF := Lib.hid (HB1.out.trans (hB.out.mono HB1.out.size))
      have hs1 := HB1.out.size
      clear hown hB
      go_wp2
      go_ret2
      refine ⟨w1.heap.size, l.length, ?_, hs1, own_lower HOF.out hs1, HBF.out⟩
      rw [List.length_map, List.length_range]
      rfl

/-! ### ZoneOf of the model -/
theorem BT.farO {w w' : World} {g : Nat} {r : Option Nat} {a b : Int} (h : BT w g a b) (hg : w.grownBy w' r) (hne : r ≠ some g) : BT w' g a b :=
  ⟨Nat.lt_of_lt_of_le h.1 hg.size, (World.cell?_of_block (hg.block g h.1 (fun e => hne e.symm))).trans h.2.1, (World.cell?_of_block (hg.block g h.1 (fun e => hne e.symm))).trans h.2.2⟩
theorem gives_e1 {w w1 : World} {o : Obj} (h : Below (w.heap.size + 1 + 1) ((w.alloc o).alloc (.cells #[] 3)) w1) : GivesA w [] false (.returned (.tuple #[.slice (some ⟨w.heap.size + 1, 0, none⟩) 0 0, .bool false])) w1 :=
  ⟨_, 0, 0, rfl, by omega, .inl rfl, (two_below w o _).trans (h.mono (by omega)), by have := h.size; simp at this; omega⟩
set_option maxHeartbeats 1000000 in
theorem szo_no (A : Option Addr) (cap : Nat) (l : List Int) (a b : Int) (w : World) (hI : IAt w A l) (hl : l.length ≤ 1048576) (hv : askB l a b = false) :
    Calls Try.prog 27 #[.slice A l.length cap, rv a b] w (GivesA w [] false) := by
  have HB0 := Lib.hid (two_below w (rb 25 a b) (.cells #[] 3))
  have HA := Lib.hid (fun w' (hb : Below w.heap.size w w') => sask_v hv A cap w' (hI.kept hb (Nat.le_refl _)) hl)
  have HT0 := Lib.hid ((BT.new w 25 a b).kept (alloc_below _ (.cells #[] 3)))
  have HB3 := Lib.hid (fun w1 (hb : Below ((w.alloc (rb 25 a b)).alloc (.cells #[] 3)).heap.size ((w.alloc (rb 25 a b)).alloc (.cells #[] 3)) w1) => (show Below (w.heap.size + 1 + 1) ((w.alloc (rb 25 a b)).alloc (.cells #[] 3)) w1 from hb.mono (by simp)))
  clear hI hv
  go_enter Try.func27, Try.ntmps27
  refine Hid.out ?_
  obtain ⟨_, q0, q1⟩ := HT0.out
  refine Lib.hid ?_
  go_wp2_with (go_at_call 46; refine (HA.out _ HB0.out).mono ?_; rintro e w1 ⟨rfl, hb1⟩; have HX1 := Lib.hid (HB3.out _ hb1); clear hb1)
  go_ret2
  exact gives_e1 HX1.out
set_option maxHeartbeats 4000000 in
set_option maxRecDepth 100000 in
theorem szo_yes (A : Option Addr) (cap : Nat) (l : List Int) (a b : Int) (w : World) (hI : IAt w A l) (hl : l.length ≤ 1048576) (hq : ZAsk l a b) :
    Calls Try.prog 27 #[.slice A l.length cap, rv a b] w (GivesA w (znL l a b) true) := by
  have HB0 := Lib.hid (two_below w (rb 25 a b) (.cells #[] 3))
  have HA := Lib.hid (fun w' (hb : Below w.heap.size w w') => sask_v (askB_iff.2 hq) A cap w' (hI.kept hb (Nat.le_refl _)) hl)
  have HS := Lib.hid (fun w' (hb : Below w.heap.size w w') => slev_any A cap l a b w' (hI.kept hb (Nat.le_refl _)) hq)
  have HT0 := Lib.hid ((BT.new w 25 a b).kept (alloc_below _ (.cells #[] 3)))
  have HO0 := Lib.hid (own_empty' w (rb 25 a b))
  have HIK := Lib.hid (fun w' (hb : Below w.heap.size w w') => hI.kept hb (Nat.le_refl _))
  have HAT := Lib.hid (fun i (hi : i < l.length) => hq.toPl.at_ hi)
  have ha1 := hq.a1
  have hab := hq.ab
  have hb1 := hq.b1
  have hn12 := hq.n
  have HZL := Lib.hid (fun (i : Nat) (hi : i < l.length) => zn_in (l := l) hab hi)
  have HZS := Lib.hid (fun (i : Nat) (hi : i < l.length) => zn_su (l := l) hab hi)
  have HLI := Lib.hid (fun (j : Nat) (hj : j < (fewL l a b).length) => few_in hq hj)
  have hL12 : (fewL l a b).length ≤ 12 := Nat.le_trans (few_len hab) hn12
  obtain ⟨i0, hi, hz0, hz1, hz2⟩ := info_parts infoI
  unfold znL
  clear hI hq
  generalize fewL l a b = L at *
  go_enter Try.func27, Try.ntmps27
  refine Hid.out ?_
  obtain ⟨_, q0, q1⟩ := HT0.out
  refine Lib.hid ?_
  go_upto_region 5 with (first
    | (go_at_call 46; refine (HA.out _ HB0.out).mono ?_; rintro e w1 ⟨rfl, hb1⟩; have HB1 := Lib.hid (HB0.out.trans (hb1.mono HB0.out.size)); have HT1 := Lib.hid (HT0.out.kept hb1); have HO1 := Lib.hid (HO0.out.on hb1); have hx1 := hb1.size; clear q0 q1; obtain ⟨_, q0, q1⟩ := HT1.out; clear hb1)
    | (go_at_call 57; refine (HS.out _ HB1.out).mono ?_; rintro e w3 ⟨g, c, rfl, hg, hO, hb3⟩; have HB2 := Lib.hid (HB1.out.trans (hb3.mono HB1.out.size)); have HT2 := Lib.hid (HT1.out.kept hb3); have HO2 := Lib.hid (HO1.out.on hb3); have HI2 := Lib.hid hO.iat; have hgl := iown_lt' hO; clear hO hb3)
    | fail)
  simp only [World.size_alloc] at hx1
  clear q0 q1 HA HB0 HS HT1 HO1 HO0 HT0 HB1
  go_wp2
  go_loopw [6, 8] (fun v i wr => ∃ k : Nat, k ≤ l.length ∧ i = .int .i64 (k : Int) ∧ Hid (IOwn wr (w.heap.size + 1) v (znK l a b L k)) ∧ Hid (v ≠ .slice none 0 0) ∧ Hid (v.ownBlock ≠ some g) ∧ Hid (IAt wr (some ⟨g, 0, none⟩) L) ∧ Hid (g < wr.heap.size) ∧ Hid (BT wr w.heap.size a b) ∧ Hid (Below w.heap.size w wr)) (fun _ i _ => l.length - (intOf i).toNat)
  case atStart => exact ⟨0, Nat.zero_le _, rfl, HO2, Lib.hid (by simp), Lib.hid (by simp [Value.ownBlock]; omega), HI2, Lib.hid hgl, HT2, HB2⟩
  case round =>
    clear HO2 HI2 HT2 HB2 hgl
    obtain ⟨k, hk, rfl, hown, hvn, hfar, hia, hgl, hT, hB⟩ := hrel
    by_cases hlt : k < l.length
    · obtain ⟨wm, hwm⟩ : ∃ wm, wm = wr := ⟨_, rfl⟩
      subst hwm
      obtain ⟨bb, off, hA, hbl, p0⟩ := (HIK.out _ hB.out).at_ hlt
      subst hA
      obtain ⟨x0, x1⟩ := HAT.out k hlt
      obtain ⟨q9, q0, q1⟩ := hT.out
      have hk0 : (0 : Int) ≤ (k : Int) := by omega
      have hkn : (k : Int) < (l.length : Int) := by omega
      have hfl := znK_len l a b L k
      have hsn := Lib.hid (znK_succ l a b L k)
      have hzl := HZL.out k hlt
      have HZ1 := Lib.hid (HZS.out k hlt)
      have HZ0 := Lib.hid (fun (j : Nat) (hj : j < zi a b L (l.getD k 0)) => zi_no hj)
      have HSS := Lib.hid (fun (j : Nat) (hj : j < L.length) w' => ssu_any (l.getD k 0) a b (L.getD j 0) w' ⟨x0, x1⟩ (by have := HLI.out j hj; omega))
      generalize zi a b L (l.getD k 0) = z at *
      generalize l.getD k 0 = x at *
      have hglt := hgl.out
      go_wp2
      go_loopw [9] (fun jv wr => ∃ j : Nat, j ≤ z ∧ jv = .int .i64 (j : Int) ∧ Hid (Below wm.heap.size wm wr)) (fun jv _ => L.length - (intOf jv).toNat)
      case atStart => exact ⟨0, Nat.zero_le _, rfl, Lib.hid (Below.refl _ _)⟩
      case round =>
        obtain ⟨j, hj, rfl, hBi⟩ := hrel
        have hjl : j < L.length := by omega
        have p1 := (hBi.out.cell (p := ⟨bb, off + k, none⟩) hbl).trans p0
        have r0 := (hBi.out.cell (p := ⟨w.heap.size, 0, none⟩) q9).trans q0
        have r1 := (hBi.out.cell (p := ⟨w.heap.size, 1, none⟩) q9).trans q1
        have hbl1 := Nat.lt_of_lt_of_le hbl hBi.out.size
        have r9 := Nat.lt_of_lt_of_le q9 hBi.out.size
        obtain ⟨b9, o9, hA9, s9, s0⟩ := (hia.out.kept hBi.out (Nat.le_refl _)).at_ hjl
        simp only [Option.some.injEq, Addr.mk.injEq, and_true] at hA9
        obtain ⟨rfl, rfl⟩ := hA9
        rw [Nat.zero_add] at s0
        have hj0 : (0 : Int) ≤ (j : Int) := by omega
        have hjn : (j : Int) < (L.length : Int) := by omega
        have hG := @cell_g
        by_cases hjz : j = z
        · subst hjz
          have HCL := Lib.hid (fun w' => HSS.out j hjl w')
          rw [HZ1.out] at HCL
          clear HZ1 HZ0 HSS p0 q0 q1
          generalize L.getD j 0 = h at *
          go_wp2
          refine region_below (by kernel_rfl) (by kernel_rfl) ?_
          repeat (first | go_big_quiet_step ((go_at_call 60; exact met HCL.out)))
          refine wpQuiet_nil ?_
          intro wp hbz
          have HRW := Lib.hid (hBi.out.trans (hbz.mono hBi.out.size))
          have ho := hown.out.on HRW.out
          unfold IOwn at ho
          rw [hfl] at ho
          have hia9 := Lib.hid (hia.out.kept HRW.out (Nat.le_refl _))
          have hT9 := Lib.hid (hT.out.kept HRW.out)
          have hBp := Lib.hid (hB.out.trans (HRW.out.mono hB.out.size))
          have hglp : g < wp.heap.size := Nat.lt_of_lt_of_le hglt HRW.out.size
          have hzp := hBp.out.size
          have hwb : w.heap.size < wp.heap.size := hT9.out.1
          clear hbz hBi p1 r0 r1 s0 hG HCL
          obtain ⟨z, rfl⟩ : ∃ z, z = j := ⟨_, rfl⟩
          go_wp2_with (at_builtin; go_must (refine wpList_append_lies _ rfl _ _ 28 rfl (w.heap.size + 1) 3 i0 (.int .i64 0) 1 8 Try.underlying28 hi hz0 hz1 hz2 rfl (by decide) _ _ _ rfl (ho.alloc _) ⟨wp.heap.size, 0, none⟩ 1 1 [iv ((z : Nat) : Int)] rfl rfl (cell_one_new _ _ _) (by intro u hu; simp at hu; subst hu; rfl) (by omega) (by unfold maxLen; omega) (by omega) (by simp; omega) (wp.heap.size + 1) (by simp) ?_); intro gg cap' w7 hown' hgrow hat hlt1)
          have hown3 := Lib.hid (IOwn.push (l := znK l a b L k) (x := ((z : Nat) : Int)) (by rw [hfl]; exact hown'))
          rw [← hsn.out] at hown3
          have hB7 := Lib.hid ((hBp.out.alloc hzp (.cells #[iv ((z : Nat) : Int)] 3)).grown hgrow (by simp; omega) (fun g3 hg3 => by have := (ho.lt g3 hg3).1; omega))
          have hia7 := Lib.hid (IAt.farA (hia9.out.kept (alloc_below wp (.cells #[iv ((z : Nat) : Int)] 3)) (Nat.le_refl _)) hgrow (fun c9 o9 e9 => by simp only [Option.some.injEq, Addr.mk.injEq, and_true] at e9; obtain ⟨rfl, rfl⟩ := e9; exact hfar.out))
          have hgl7 := Lib.hid (show g < w7.heap.size from Nat.lt_of_lt_of_le hglp (Nat.le_trans (by simp) hgrow.size))
          have hT7 := Lib.hid (show BT w7 w.heap.size a b from by
            have h1 := hT9.out.kept (alloc_below wp (.cells #[iv ((z : Nat) : Int)] 3))
            exact h1.farO hgrow (fun e => by have := (ho.lt _ e).1; omega))
          have hf7 : Hid ((Value.slice (some ⟨gg, 0, none⟩) (k + 1) cap').ownBlock ≠ some g) := Lib.hid (by
            intro e
            have hgb : gg = g := by simpa [Value.ownBlock] using e
            subst hgb
            rcases hat with hat | hat
            · exact hfar.out hat
            · omega)
          clear hown' hgrow ho hat hia9
          go_wp2
          go_roundw
          case rel => exact ⟨k + 1, by omega, by go_num, hown3, Lib.hid (by simp), hf7, hia7, hgl7, hT7, hB7⟩
          case measure => simp [intOf]; omega
        · have HCL := Lib.hid (fun w' => HSS.out j hjl w')
          rw [HZ0.out j (by omega)] at HCL
          clear p0 q0 q1
          generalize L.getD j 0 = h at *
          go_wp2
          refine region_below (by kernel_rfl) (by kernel_rfl) ?_
          repeat (first | go_big_quiet_step ((go_at_call 60; exact met HCL.out)))
          refine wpQuiet_nil ?_
          intro wz hbz
          have HBZ := Lib.hid (hBi.out.trans (hbz.mono hBi.out.size))
          clear hbz
          go_wp2
          go_roundw
          case rel => exact ⟨j + 1, by omega, by go_num, HBZ⟩
          case measure => simp [intOf]; omega
    · have hkN : k = l.length := by omega
      have hown2 := hown.out
      rw [hkN] at hown2
      obtain ⟨g', capg, rfl, hg'⟩ := own_slice hown2 hvn.out
      have HO := Lib.hid hown2
      have hlt9 := iown_lt' hown2
      clear hkN hown2
      go_wp2
      go_ret2
      exact ⟨g', 0, capg, rfl, by omega, HO.out.iat, hB.out, hlt9⟩
end Go.Proofs.Ytjfpimldiokpbaa.S12
