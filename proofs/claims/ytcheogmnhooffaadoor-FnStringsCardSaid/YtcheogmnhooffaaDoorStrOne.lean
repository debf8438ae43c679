/- The laws' bytes as they come in; what the number's text gives back; the parts of the law FnStrings. Conditions: each theorem's own premises. -/
import Derived.Test.YtcheogmnhooffaaDoorVerTwo
import Derived.Test.YtcheogmnhooffaaDoorDrawThree
import Derived.OpenShut
import Derived.StillTailTactics
import Derived.Laws.BitsAllLaws
import Derived.Lib.ConvBytes
namespace Go.Proofs.YtcheogmnhooffaaDoor.S1
open Go.RowKit P1
open Go.Lib hiding intOf

/-- What the walk is told of the bytes that came in. -/
def IsRow (k : IntKind) (w : World) (a : Option Addr) (len cap : Nat) (zs : List Int) : Prop :=
  (a = none ∧ len = 0 ∧ cap = 0 ∧ zs = []) ∨
  ∃ x, a = some x ∧ len ≤ cap ∧ cap ≤ maxLen ∧ zs.length = cap ∧ (∀ i, i < zs.length → w.cell? (x.add i) = some (.int k (zs.getD i 0))) ∧ ∀ n ∈ zs, (Lit.int k n).wf = true

theorem cd_of_row {w : World} {a : Option Addr} {len cap : Nat} {zs : List Int} (h : IsRow .u8 w a len cap zs) : Cd w.heap.size a len w := by
  rcases h with ⟨_, h0, _⟩ | ⟨x, rfl, hl, _, hz, hc, hwf⟩
  · exact .inl h0
  · by_cases h0 : len = 0
    · exact .inl h0
    · obtain ⟨b, off, rfl, hat⟩ := ints_at hc (by omega)
      refine .inr ⟨b, off, rfl, ?_, fun j hj => ?_⟩
      · have h00 := hat 0 (by omega)
        refine Decidable.byContradiction fun hlt => ?_
        unfold World.cell? at h00
        rw [Array.getElem?_eq_none (by simpa using hlt)] at h00
        cases h00
      · have hj' : j < zs.length := by omega
        have hm : zs.getD j 0 ∈ zs := by
          have e : zs.getD j 0 = zs[j] := by simp [List.getD, hj']
          rw [e]; exact List.getElem_mem hj'
        have hw := hwf _ hm
        have hb : 0 ≤ zs.getD j 0 ∧ zs.getD j 0 ≤ 255 := by
          have e1 : IntKind.u8.min = 0 := rfl
          have e2 : IntKind.u8.max = 255 := rfl
          simpa [Lit.wf, e1, e2] using hw
        exact ⟨(zs.getD j 0).toNat, by omega, by rw [hat j hj', Int.toNat_of_nonneg hb.1]⟩

def fS (z : Int) : ByteArray := if -999999 ≤ z ∧ z ≤ 999999 then ⟨(itoa z).toArray⟩ else ⟨#[]⟩
def fO (z : Int) : Bool := decide (-999999 ≤ z ∧ z ≤ 999999)
theorem fmt_all (z : Int) (w : World) (ht : Tab w) : Calls Tryd.prog 10 #[.int .i64 z] w fun e w' => e = .returned (.tuple #[.string (fS z), .bool (fO z)]) ∧ Below w.heap.size w w' := by
  by_cases h : -999999 ≤ z ∧ z ≤ 999999
  · unfold fS fO; rw [if_pos h, decide_eq_true h]; exact fmt_yes z w h.1 h.2 ht
  · unfold fS fO; rw [if_neg h, decide_eq_false h]; exact (fmt_no z w (by omega)).mono fun e w' ⟨he, hw⟩ => ⟨he, by rw [hw]; exact Below.refl _ _⟩
theorem sfmt_all (z : Int) (w : World) : Calls Tryd.prog 11 #[.int .i64 z] w fun e w' => e = .returned (.tuple #[.string (fS z), .bool (fO z)]) ∧ Below w.heap.size w w' := by
  by_cases h : -999999 ≤ z ∧ z ≤ 999999
  · unfold fS fO; rw [if_pos h, decide_eq_true h]; exact (sfmt_yes z w h.1 h.2).mono fun e w' ⟨he, d, hw⟩ => ⟨he, by rw [hw]; exact below_drewN (Below.refl _ _) d⟩
  · unfold fS fO; rw [if_neg h, decide_eq_false h]; exact (sfmt_no z w (by omega)).mono fun e w' ⟨he, hw⟩ => ⟨he, by rw [hw]; exact Below.refl _ _⟩
theorem fS_size (z : Int) : (fS z).size ≤ 100 := by
  unfold fS
  split
  · rename_i h
    have := itoa_len_seven z h.1 h.2
    simp [ByteArray.size]; omega
  · simp [ByteArray.size]
theorem fS_back (z : Int) (h : fO z = true) : parseL (fS z).data.toList = some z := by
  have h' := of_decide_eq_true h
  unfold fS
  rw [if_pos h']
  exact parseL_of h'.1 h'.2 (by simp)
theorem sparse_b (s : ByteArray) (w : World) (hs : s.size ≤ 1000) :
    Calls Tryd.prog 14 #[.string s] w fun e w' => e = .returned (.tuple #[.int .i64 ((parseL s.data.toList).getD 0), .bool (parseL s.data.toList).isSome]) ∧ Below w.heap.size w w' :=
  (sparse_any s w (by unfold maxLen; omega)).mono fun e w' ⟨he, d, hw⟩ => ⟨he, by rw [hw]; exact below_drewN (Below.refl _ _) d⟩
theorem sapp_yes_b (s : ByteArray) (w : World) (h : AppOk s) :
    Calls Tryd.prog 17 #[.string s] w fun e w' => e = .returned (.tuple #[.string (sealB s), .bool true]) ∧ Below w.heap.size w w' :=
  (sapp_yes s w h).mono fun e w' ⟨he, d, hw⟩ => ⟨he, by rw [hw]; exact below_drewN (Below.refl _ _) d⟩
theorem sapp_no_b (s : ByteArray) (w : World) (h : ¬ AppOk s) :
    Calls Tryd.prog 17 #[.string s] w fun e w' => e = .returned (.tuple #[.string ⟨#[]⟩, .bool false]) ∧ Below w.heap.size w w' :=
  (sapp_no s w h).mono fun e w' ⟨he, d, hw⟩ => ⟨he, by rw [hw]; exact below_drewN (Below.refl _ _) d⟩
theorem seal_bounds (x : ByteArray) : 2 ≤ (sealB x).size := by rw [sealB_size]; have := (sealL_len x.data.toList).1; omega
theorem mk_list (x : ByteArray) : (⟨x.data.toList.toArray⟩ : ByteArray) = x := by apply ByteArray.ext; simp
theorem ver_back (x : ByteArray) (hno : stB x.data.toList 35 = false) (hf : (sealB x).size ≤ 4000) : verV (sealB x).data.toList = .tuple #[.string x, .bool true] := by
  have e : (sealB x).data.toList = sealL x.data.toList := by simp [sealB]
  have hv := verL_seal x.data.toList (of_decide_eq_false hno) (by rw [← sealB_size]; exact hf)
  unfold verV
  rw [e, hv]
  show Value.tuple #[.string ⟨x.data.toList.toArray⟩, .bool true] = _
  rw [mk_list]
/-- The checksummed text with another byte at place k. -/
def chg (y : ByteArray) (k : Nat) (d : UInt8) : ByteArray := ⟨(y.data.toList.set k d).toArray⟩
theorem chg_size (y : ByteArray) (k : Nat) (d : UInt8) : (chg y k d).size = y.size := by
  show (y.data.toList.set k d).toArray.size = y.size
  rw [List.size_toArray, List.length_set]; simp
theorem ver_changed (x : ByteArray) (k : Nat) (d : UInt8) (hno : stB x.data.toList 35 = false) (hk : k < (sealB x).size) (hd : (sealB x)[k] ≠ d) : verV (chg (sealB x) k d).data.toList = .tuple #[.string ⟨#[]⟩, .bool false] := by
  have e : (sealB x).data.toList = sealL x.data.toList := by simp [sealB]
  have hk' : k < (sealL x.data.toList).length := by rw [← sealB_size]; exact hk
  have hg : (sealB x)[k] = (sealL x.data.toList)[k] := by
    have h1 : (sealB x)[k] = (sealB x).data.toList[k]'(by rw [e]; exact hk') := rfl
    rw [h1]; simp only [e]
  have hc := changed x.data.toList (of_decide_eq_false hno) ((sealL x.data.toList).take k) ((sealL x.data.toList).drop (k + 1)) ((sealL x.data.toList)[k]) d (by rw [← hg]; exact hd) (by
    rw [← List.drop_eq_getElem_cons hk', List.take_append_drop])
  have e2 : (chg (sealB x) k d).data.toList = (sealL x.data.toList).take k ++ d :: (sealL x.data.toList).drop (k + 1) := by
    show (((sealB x).data.toList.set k d).toArray).toList = _
    rw [e, List.set_eq_take_append_cons_drop, if_pos hk']
  unfold verV
  rw [e2, hc]; rfl

/-- A text's bytes in new memory. -/
theorem conv_b (w : World) (y : ByteArray) : ∃ C V, (convert 9 22 (.string y)).run Tryd.prog w = .ok (.slice (some ⟨w.heap.size, 0, none⟩) y.size C) V ∧ Below w.heap.size w V ∧ w.heap.size < V.heap.size ∧
    (∀ j, j < y.size → V.cell? ⟨w.heap.size, j, none⟩ = some (.int .u8 ((y.data.toList.getD j 0).toNat : Int))) ∧ (∀ j, j < y.size → V.frozen? ⟨w.heap.size, j, none⟩ = false) := by
  refine ⟨_, _, Lib.run_convert_string_bytes (P := Tryd.prog) w 9 22 5 y Tryd.underlying9 Tryd.underlying22 Tryd.underlying5, Lib.bytesWorld_below w _ y, by rw [Lib.bytesWorld_size]; omega, fun j hj => Lib.bytesWorld_cell w _ y j hj, fun j hj => ?_⟩
  have hsz : y.size ≤ (Lib.bytesCells w 5 y).size := by
    have e : y.data.size = y.size := rfl
    simp [Lib.bytesCells, e]
  simp [World.frozen?, Lib.bytesWorld_at_new]
  omega
theorem back_b (w : World) (g C k : Nat) (y : ByteArray) (d : UInt8) (hk : k < y.size) (hc : ∀ j, j < y.size → w.cell? ⟨g, j, none⟩ = some (.int .u8 ((y.data.toList.getD j 0).toNat : Int))) :
    (convert 22 9 (.slice (some ⟨g, 0, none⟩) y.size C)).run Tryd.prog (w.setCell ⟨g, k, none⟩ (.int .u8 (d.toNat : Int))) = .ok (.string (chg y k d)) (w.setCell ⟨g, k, none⟩ (.int .u8 (d.toNat : Int))) := by
  have hl : (y.data.toList.set k d).length = y.size := by simp
  have h := run_convert_bytes_back (P := Tryd.prog) (w.setCell ⟨g, k, none⟩ (.int .u8 (d.toNat : Int))) 22 9 5 ⟨g, 0, none⟩ C (y.data.toList.set k d) Tryd.underlying22 Tryd.underlying5 Tryd.underlying9 (fun j hj => by
    have hj' : j < y.size := by rw [← hl]; exact hj
    have e : ((⟨g, 0, none⟩ : Addr).add j) = ⟨g, j, none⟩ := by unfold Addr.add; split <;> simp_all
    rw [e]
    by_cases hjk : j = k
    · subst hjk
      rw [World.cell?_setCell_same' _ _ _ (by rw [hc j hj']; rfl)]
      simp
    · rw [World.cell?_setCell_other _ _ _ _ (fun e2 => hjk (by cases e2; rfl)), hc j hj']
      simp [List.getD, List.getElem_set_ne (fun e => hjk e.symm), hj'])
  rw [hl] at h
  exact h

theorem vat_fix (B : Nat) (a : Option Addr) (n cap : Nat) (i : Int) (V : World) (hc : Cd B a n V) (hn : n ≤ 65536) (h0 : 0 ≤ i) (h1 : i ≤ 1000) :
    ∃ r : Int, 0 ≤ r ∧ r ≤ 255 ∧ ∀ W : World, W.heap = V.heap → Calls Tryd.prog 19 #[.slice a n cap, .int .i64 i] W fun e w' => e = .returned (.int .i64 r) ∧ w' = W := by
  obtain ⟨k, rfl⟩ : ∃ k : Nat, i = (k : Int) := ⟨i.toNat, by omega⟩
  by_cases hlt : k < n
  · rcases hc with hc | ⟨b, off, rfl, hb, hcell⟩
    · omega
    · obtain ⟨v, hv, hcv⟩ := hcell k hlt
      refine ⟨v, by omega, by omega, fun W hW => ?_⟩
      have hcw : W.cell? ⟨b, off + k, none⟩ = some (.int .u8 (v : Int)) := by rw [← hcv]; simp [World.cell?, hW]
      clear hcell hcv hW
      have hkn : (k : Int) < (n : Int) := by omega
      go_enter Tryd.func19, Tryd.ntmps19
      go_wp2
      go_ret
      exact ⟨rfl, rfl⟩
  · have hkn : (n : Int) ≤ (k : Int) := by omega
    have hbd := emod_bd ((k : Int) * 7 + (n : Int)) 256 (by omega)
    refine ⟨_, hbd.1, by omega, fun W _ => ?_⟩
    clear hc hbd
    go_enter Tryd.func19, Tryd.ntmps19
    go_wp2
    go_ret
    exact ⟨rfl, rfl⟩

theorem xor_ne (c : UInt8) (q : Nat) (h : q ≤ 254) : ∃ d : UInt8, bits BinOp.xor IntKind.u8 (c.toNat : Int) (1 + (q : Int)) = (d.toNat : Int) ∧ c ≠ d := by
  have hc := c.toNat_lt
  refine ⟨UInt8.ofNat (c.toNat ^^^ (1 + q)), ?_, fun e => ?_⟩
  · rw [show (1 : Int) + (q : Int) = ((1 + q : Nat) : Int) by omega, u8_xor_nat c.toNat (1 + q) (by omega) (by omega)]
    have hlt : c.toNat ^^^ (1 + q) < 2 ^ 8 := Nat.xor_lt_two_pow (by omega) (by omega)
    rw [UInt8.toNat_ofNat', Nat.mod_eq_of_lt hlt]
  · have hlt : c.toNat ^^^ (1 + q) < 2 ^ 8 := Nat.xor_lt_two_pow (by omega) (by omega)
    have e2 := congrArg UInt8.toNat e
    rw [UInt8.toNat_ofNat', Nat.mod_eq_of_lt hlt] at e2
    have e3 : c.toNat ^^^ (c.toNat ^^^ (1 + q)) = c.toNat ^^^ c.toNat := by rw [← e2]
    rw [← Nat.xor_assoc, Nat.xor_self, Nat.zero_xor] at e3
    omega

theorem vbig_b (a : Option Addr) (n cap : Nat) (w : World) (hn : n ≤ 65536) :
    Calls Tryd.prog 8 #[.slice a n cap] w fun e w' => e = .returned (.bool false) ∧ Below w.heap.size w w' :=
  (vbig_no a n cap w hn).mono fun e w' ⟨he, hw⟩ => ⟨he, by rw [hw]; exact Below.refl _ _⟩
theorem back_vals (z : Int) (h : fO z = true) : (parseL (fS z).data.toList).isSome = true ∧ (parseL (fS z).data.toList).getD 0 = z := by
  rw [fS_back z h]; exact ⟨rfl, rfl⟩

set_option maxHeartbeats 8000000 in
set_option maxRecDepth 100000 in
theorem strings_small (a : Option Addr) (n cap : Nat) (w : World) (hcd : Cd w.heap.size a n w) (hn : n ≤ 65536) (ht : Tab w) (he : Errs w) :
    Calls Tryd.prog 3 #[.slice a n cap] w fun e w' => e = .returned (.bool true) ∧ Below w.heap.size w w' := by
  have HC0 := Lib.hid hcd
  have HT0 := Lib.hid ht
  have HE0 := Lib.hid he
  have HB0 := Lib.hid (Below.refl w.heap.size w)
  clear hcd ht he
  go_enter Tryd.func3, Tryd.ntmps3
  go_wp2_with (go_at_call 8; refine (vbig_b a n cap _ hn).mono ?_; rintro e w1 ⟨rfl, hb⟩; refine Hid.out ?_)
  have HT1 := Lib.hid (HT0.out.later hb)
  have HE1 := Lib.hid (HE0.out.later hb)
  have HC1 := Lib.hid (HC0.out.later hb (Nat.le_refl _))
  have HB1 := Lib.hid (HB0.out.trans (hb.mono HB0.out.size))
  clear hb HT0 HE0 HC0 HB0
  refine Lib.hid ?_
  go_wp2_with (go_at_call 9; refine (dfmt_any a n cap _ HC1.out hn).mono ?_; rintro e w2 ⟨⟨z, rfl⟩, hb⟩; refine Hid.out ?_)
  have HT2 := Lib.hid (HT1.out.later hb)
  have HE2 := Lib.hid (HE1.out.later hb)
  have HC2 := Lib.hid (HC1.out.later hb (Nat.le_refl _))
  have HB2 := Lib.hid (HB1.out.trans (hb.mono HB1.out.size))
  clear hb HT1 HE1 HC1 HB1
  have H2 := Lib.hid (fun w => fmt_all z w)
  have H3 := Lib.hid (fun w => sfmt_all z w)
  have hSz := fS_size z
  have H10 := Lib.hid (fun w => parse_any (fS z) (by omega) w)
  have HBack := Lib.hid (back_vals z)
  generalize (parseL (fS z).data.toList).getD 0 = p at *
  generalize (parseL (fS z).data.toList).isSome = q at *
  generalize fS z = S at *
  generalize fO z = O at *
  refine Lib.hid ?_
  go_wp2_with (go_at_call 10; refine (H2.out _ HT2.out).mono ?_; rintro e w3 ⟨rfl, hb⟩; refine Hid.out ?_)
  have HT3 := Lib.hid (HT2.out.later hb)
  have HE3 := Lib.hid (HE2.out.later hb)
  have HC3 := Lib.hid (HC2.out.later hb (Nat.le_refl _))
  have HB3 := Lib.hid (HB2.out.trans (hb.mono HB2.out.size))
  clear hb HT2 HE2 HC2 HB2
  refine Lib.hid ?_
  go_wp2_with (go_at_call 11; refine (H3.out _).mono ?_; rintro e w4 ⟨rfl, hb⟩; refine Hid.out ?_)
  have HT4 := Lib.hid (HT3.out.later hb)
  have HE4 := Lib.hid (HE3.out.later hb)
  have HC4 := Lib.hid (HC3.out.later hb (Nat.le_refl _))
  have HB4 := Lib.hid (HB3.out.trans (hb.mono HB3.out.size))
  clear hb HT3 HE3 HC3 HB3
  refine Lib.hid ?_
  go_wp2_with (go_at_call 12; refine (dparse_any a n cap _ HC4.out hn).mono ?_; rintro e w5 ⟨⟨t, rfl, htz⟩, hb⟩; refine Hid.out ?_)
  have HT5 := Lib.hid (HT4.out.later hb)
  have HE5 := Lib.hid (HE4.out.later hb)
  have HC5 := Lib.hid (HC4.out.later hb (Nat.le_refl _))
  have HB5 := Lib.hid (HB4.out.trans (hb.mono HB4.out.size))
  clear hb HT4 HE4 HC4 HB4
  have H5 := Lib.hid (fun w => parse_any t (by omega) w)
  have H6 := Lib.hid (fun w => sparse_b t w (by omega))
  generalize (parseL t.data.toList).getD 0 = p2 at *
  generalize (parseL t.data.toList).isSome = q2 at *
  refine Lib.hid ?_
  go_wp2_with (go_at_call 13; refine (H5.out _ HT5.out HE5.out).mono ?_; rintro e w6 ⟨rfl, hb⟩; refine Hid.out ?_)
  have HT6 := Lib.hid (HT5.out.later hb)
  have HE6 := Lib.hid (HE5.out.later hb)
  have HC6 := Lib.hid (HC5.out.later hb (Nat.le_refl _))
  have HB6 := Lib.hid (HB5.out.trans (hb.mono HB5.out.size))
  clear hb HT5 HE5 HC5 HB5
  refine Lib.hid ?_
  go_wp2_with (go_at_call 14; refine (H6.out _).mono ?_; rintro e w7 ⟨rfl, hb⟩; refine Hid.out ?_)
  have HT7 := Lib.hid (HT6.out.later hb)
  have HE7 := Lib.hid (HE6.out.later hb)
  have HC7 := Lib.hid (HC6.out.later hb (Nat.le_refl _))
  have HB7 := Lib.hid (HB6.out.trans (hb.mono HB6.out.size))
  clear hb HT6 HE6 HC6 HB6
  refine Lib.hid ?_
  go_wp2_with (go_at_call 15; refine (dapp_any a n cap _ HC7.out hn).mono ?_; rintro e w8 ⟨⟨x, rfl, hxz⟩, hb⟩; refine Hid.out ?_)
  have HT8 := Lib.hid (HT7.out.later hb)
  have HE8 := Lib.hid (HE7.out.later hb)
  have HC8 := Lib.hid (HC7.out.later hb (Nat.le_refl _))
  have HB8 := Lib.hid (HB7.out.trans (hb.mono HB7.out.size))
  clear hb HT7 HE7 HC7 HB7
  clear H2 H3 H5 H6
  by_cases hx : AppOk x
  · have H8 := Lib.hid (fun w ht => app_yes x w ht hx)
    have H9 := Lib.hid (fun w => sapp_yes_b x w hx)
    have hxn := Lib.hid hx.no
    have hxf := hx.fits
    clear hx
    generalize hy : sealB x = y at *
    have HY := Lib.hid hy
    clear hy
    refine Lib.hid ?_
    go_wp2_with (go_at_call 16; refine (H8.out _ HT8.out).mono ?_; rintro e w9 ⟨rfl, hb⟩; refine Hid.out ?_)
    have HT9 := Lib.hid (HT8.out.later hb)
    have HE9 := Lib.hid (HE8.out.later hb)
    have HC9 := Lib.hid (HC8.out.later hb (Nat.le_refl _))
    have HB9 := Lib.hid (HB8.out.trans (hb.mono HB8.out.size))
    clear hb HT8 HE8 HC8 HB8
    refine Lib.hid ?_
    go_wp2_with (go_at_call 17; refine (H9.out _).mono ?_; rintro e w10 ⟨rfl, hb⟩; refine Hid.out ?_)
    have HT10 := Lib.hid (HT9.out.later hb)
    have HE10 := Lib.hid (HE9.out.later hb)
    have HC10 := Lib.hid (HC9.out.later hb (Nat.le_refl _))
    have HB10 := Lib.hid (HB9.out.trans (hb.mono HB9.out.size))
    clear hb HT9 HE9 HC9 HB9
    refine Lib.hid ?_
    go_wp2_with (go_at_call 13; refine (H10.out _ HT10.out HE10.out).mono ?_; rintro e w11 ⟨rfl, hb⟩; refine Hid.out ?_)
    have HT11 := Lib.hid (HT10.out.later hb)
    have HE11 := Lib.hid (HE10.out.later hb)
    have HC11 := Lib.hid (HC10.out.later hb (Nat.le_refl _))
    have HB11 := Lib.hid (HB10.out.trans (hb.mono HB10.out.size))
    clear hb HT10 HE10 HC10 HB10
    clear H8 H9
    have hv := ver_back x hxn.out (by rw [HY.out]; exact hxf)
    have hy2 := seal_bounds x
    rw [HY.out] at hv hy2
    have H11 := Lib.hid (fun w ht => ver_any y (by omega) w ht)
    rw [hv] at H11
    clear hv
    have hopen : (O = true → q = true ∧ p = z) := HBack.out
    have HOp := Lib.hid hopen
    clear hopen
    rcases Bool.eq_false_or_eq_true O with hO | hO
    all_goals subst hO
    rotate_left
    · clear HOp HBack H10
      refine Lib.hid ?_
      go_wp2_with (go_at_call 18; refine (H11.out _ HT11.out).mono ?_; rintro e w12 ⟨rfl, hb⟩; refine Hid.out ?_)
      have HT12 := Lib.hid (HT11.out.later hb)
      have HE12 := Lib.hid (HE11.out.later hb)
      have HC12 := Lib.hid (HC11.out.later hb (Nat.le_refl _))
      have HB12 := Lib.hid (HB11.out.trans (hb.mono HB11.out.size))
      clear hb HT11 HE11 HC11 HB11
      obtain ⟨C, V, hcv, hVb, hVlt, hVc, hVf⟩ := conv_b w12 y
      have HTV := Lib.hid (HT12.out.later hVb)
      have HBV := Lib.hid (HB12.out.trans (hVb.mono HB12.out.size))
      have hCV := HC12.out.later hVb (Nat.le_refl _)
      obtain ⟨r9, h90, h91, hv9⟩ := vat_fix _ a n cap 9 V hCV hn (by omega) (by omega)
      obtain ⟨r10, h100, h101, hv10⟩ := vat_fix _ a n cap 10 V hCV hn (by omega) (by omega)
      have HV9 := Lib.hid (hv9 V rfl)
      have HV10 := Lib.hid hv10
      have hmb := emod_bd r9 (y.size : Int) (by omega)
      obtain ⟨kk, hkk⟩ : ∃ kk : Nat, r9 % (y.size : Int) = (kk : Int) := ⟨(r9 % (y.size : Int)).toNat, (Int.toNat_of_nonneg hmb.1).symm⟩
      have hks : kk < y.size := by omega
      have hks' : (kk : Int) < (y.size : Int) := by omega
      have hk0' : (0 : Int) ≤ (kk : Int) := by omega
      have hpos : (0 : Int) < (y.size : Int) := by omega
      have hkt : r9.tmod (y.size : Int) = (kk : Int) := by rw [Int.tmod_eq_emod_of_nonneg h90]; exact hkk
      have hc0 := hVc kk hks
      have hf0 := hVf kk hks
      have HVC := Lib.hid hVc
      obtain ⟨q10, hq10⟩ : ∃ q10 : Nat, r10 % 255 = (q10 : Int) := ⟨(r10 % 255).toNat, by omega⟩
      have hq1 : q10 ≤ 254 := by omega
      have hqt : r10.tmod 255 = (q10 : Int) := by rw [Int.tmod_eq_emod_of_nonneg h100]; exact hq10
      have hq2 : IntKind.i64.wrap (1 + (q10 : Int)) = 1 + (q10 : Int) := IntWalk.i64_in _ (by omega)
      have hq3 : IntKind.u8.wrap (1 + (q10 : Int)) = 1 + (q10 : Int) := IntWalk.u8_in _ (by omega)
      have hyc : y.data.toList.getD kk 0 = y[kk] := by
        have e1 : y[kk] = y.data.toList[kk]'(by simpa using hks) := rfl
        rw [e1]; simp [List.getD, hks]
      rw [hyc] at hc0
      obtain ⟨d, hxor, hcd⟩ := xor_ne y[kk] q10 hq1
      have hchg : verV (chg y kk d).data.toList = .tuple #[.string ⟨#[]⟩, .bool false] := by
        have := HY.out
        subst this
        exact ver_changed x kk d hxn.out hks hcd
      have hchs := chg_size y kk d
      have H13 := Lib.hid (fun w ht => ver_any (chg y kk d) (by omega) w ht)
      rw [hchg] at H13
      have HBK := Lib.hid (fun w => back_b w w12.heap.size C kk y d hks)
      have HVb := Lib.hid hVb
      clear hVc hVf hVb hCV hv9 hv10 hyc hcd hchg hchs hmb HC12 HE12
      generalize chg y kk d = y2 at *
      generalize (y[kk].toNat : Int) = c at *
      refine Lib.hid ?_
      go_wp2_with (go_at_call 19; refine HV9.out.mono ?_; rintro e w13 ⟨rfl, hw13⟩; refine Hid.out ?_)
      subst hw13
      refine Lib.hid ?_
      go_wp2_with fail
      refine wp_region_still_tail 13 (by kernel_rfl) (by kernel_rfl) ?_
      simp only [List.take_succ_cons, List.take_zero, List.drop_succ_cons, List.drop_zero]
      repeat still_step
      still_call (HV10.out _ rfl)
      repeat still_step
      refine wpStill_nil ?_
      change wpList _ _ _ _ _ w13.drew
      have HVC14 : Hid (∀ j, j < y.size → w13.drew.cell? ⟨w12.heap.size, j, none⟩ = some (.int .u8 ((y.data.toList.getD j 0).toNat : Int))) := HVC
      have hc14 : w13.drew.cell? ⟨w12.heap.size, kk, none⟩ = some (.int .u8 c) := hc0
      have hf14 : w13.drew.frozen? ⟨w12.heap.size, kk, none⟩ = false := hf0
      have HVb14 : Hid (Below w12.heap.size w12 w13.drew) := Lib.hid HVb.out.drew
      clear HVC hc0 hf0 HVb HV9 HV10 HTV HBV hcv hVlt
      generalize w13.drew = w14 at *
      have hbk := HBK.out w14 HVC14.out
      have hsb : Below w12.heap.size w12 (w14.setCell ⟨w12.heap.size, kk, none⟩ (.int .u8 (d.toNat : Int))) := HVb14.out.setCell (p := ⟨w12.heap.size, kk, none⟩) (Nat.le_refl _) _
      have HTW := Lib.hid (HT12.out.later hsb)
      have HBW := Lib.hid (HB12.out.trans (hsb.mono HB12.out.size))
      clear hsb HBK HVC14
      go_wp2_with (go_at_call 18; refine (H13.out _ HTW.out).mono ?_; rintro e w15 ⟨rfl, hb15⟩)
      go_ret
      exact ⟨rfl, HBW.out.trans (hb15.mono HBW.out.size)⟩
    · obtain ⟨rfl, rfl⟩ := HOp.out rfl
      clear HOp HBack H10
      refine Lib.hid ?_
      go_wp2_with (go_at_call 18; refine (H11.out _ HT11.out).mono ?_; rintro e w12 ⟨rfl, hb⟩; refine Hid.out ?_)
      have HT12 := Lib.hid (HT11.out.later hb)
      have HE12 := Lib.hid (HE11.out.later hb)
      have HC12 := Lib.hid (HC11.out.later hb (Nat.le_refl _))
      have HB12 := Lib.hid (HB11.out.trans (hb.mono HB11.out.size))
      clear hb HT11 HE11 HC11 HB11
      obtain ⟨C, V, hcv, hVb, hVlt, hVc, hVf⟩ := conv_b w12 y
      have HTV := Lib.hid (HT12.out.later hVb)
      have HBV := Lib.hid (HB12.out.trans (hVb.mono HB12.out.size))
      have hCV := HC12.out.later hVb (Nat.le_refl _)
      obtain ⟨r9, h90, h91, hv9⟩ := vat_fix _ a n cap 9 V hCV hn (by omega) (by omega)
      obtain ⟨r10, h100, h101, hv10⟩ := vat_fix _ a n cap 10 V hCV hn (by omega) (by omega)
      have HV9 := Lib.hid (hv9 V rfl)
      have HV10 := Lib.hid hv10
      have hmb := emod_bd r9 (y.size : Int) (by omega)
      obtain ⟨kk, hkk⟩ : ∃ kk : Nat, r9 % (y.size : Int) = (kk : Int) := ⟨(r9 % (y.size : Int)).toNat, (Int.toNat_of_nonneg hmb.1).symm⟩
      have hks : kk < y.size := by omega
      have hks' : (kk : Int) < (y.size : Int) := by omega
      have hk0' : (0 : Int) ≤ (kk : Int) := by omega
      have hpos : (0 : Int) < (y.size : Int) := by omega
      have hkt : r9.tmod (y.size : Int) = (kk : Int) := by rw [Int.tmod_eq_emod_of_nonneg h90]; exact hkk
      have hc0 := hVc kk hks
      have hf0 := hVf kk hks
      have HVC := Lib.hid hVc
      obtain ⟨q10, hq10⟩ : ∃ q10 : Nat, r10 % 255 = (q10 : Int) := ⟨(r10 % 255).toNat, by omega⟩
      have hq1 : q10 ≤ 254 := by omega
      have hqt : r10.tmod 255 = (q10 : Int) := by rw [Int.tmod_eq_emod_of_nonneg h100]; exact hq10
      have hq2 : IntKind.i64.wrap (1 + (q10 : Int)) = 1 + (q10 : Int) := IntWalk.i64_in _ (by omega)
      have hq3 : IntKind.u8.wrap (1 + (q10 : Int)) = 1 + (q10 : Int) := IntWalk.u8_in _ (by omega)
      have hyc : y.data.toList.getD kk 0 = y[kk] := by
        have e1 : y[kk] = y.data.toList[kk]'(by simpa using hks) := rfl
        rw [e1]; simp [List.getD, hks]
      rw [hyc] at hc0
      obtain ⟨d, hxor, hcd⟩ := xor_ne y[kk] q10 hq1
      have hchg : verV (chg y kk d).data.toList = .tuple #[.string ⟨#[]⟩, .bool false] := by
        have := HY.out
        subst this
        exact ver_changed x kk d hxn.out hks hcd
      have hchs := chg_size y kk d
      have H13 := Lib.hid (fun w ht => ver_any (chg y kk d) (by omega) w ht)
      rw [hchg] at H13
      have HBK := Lib.hid (fun w => back_b w w12.heap.size C kk y d hks)
      have HVb := Lib.hid hVb
      clear hVc hVf hVb hCV hv9 hv10 hyc hcd hchg hchs hmb HC12 HE12
      generalize chg y kk d = y2 at *
      generalize (y[kk].toNat : Int) = c at *
      refine Lib.hid ?_
      go_wp2_with (go_at_call 19; refine HV9.out.mono ?_; rintro e w13 ⟨rfl, hw13⟩; refine Hid.out ?_)
      subst hw13
      refine Lib.hid ?_
      go_wp2_with fail
      refine wp_region_still_tail 13 (by kernel_rfl) (by kernel_rfl) ?_
      simp only [List.take_succ_cons, List.take_zero, List.drop_succ_cons, List.drop_zero]
      repeat still_step
      still_call (HV10.out _ rfl)
      repeat still_step
      refine wpStill_nil ?_
      change wpList _ _ _ _ _ w13.drew
      have HVC14 : Hid (∀ j, j < y.size → w13.drew.cell? ⟨w12.heap.size, j, none⟩ = some (.int .u8 ((y.data.toList.getD j 0).toNat : Int))) := HVC
      have hc14 : w13.drew.cell? ⟨w12.heap.size, kk, none⟩ = some (.int .u8 c) := hc0
      have hf14 : w13.drew.frozen? ⟨w12.heap.size, kk, none⟩ = false := hf0
      have HVb14 : Hid (Below w12.heap.size w12 w13.drew) := Lib.hid HVb.out.drew
      clear HVC hc0 hf0 HVb HV9 HV10 HTV HBV hcv hVlt
      generalize w13.drew = w14 at *
      have hbk := HBK.out w14 HVC14.out
      have hsb : Below w12.heap.size w12 (w14.setCell ⟨w12.heap.size, kk, none⟩ (.int .u8 (d.toNat : Int))) := HVb14.out.setCell (p := ⟨w12.heap.size, kk, none⟩) (Nat.le_refl _) _
      have HTW := Lib.hid (HT12.out.later hsb)
      have HBW := Lib.hid (HB12.out.trans (hsb.mono HB12.out.size))
      clear hsb HBK HVC14
      go_wp2_with (go_at_call 18; refine (H13.out _ HTW.out).mono ?_; rintro e w15 ⟨rfl, hb15⟩)
      go_ret
      exact ⟨rfl, HBW.out.trans (hb15.mono HBW.out.size)⟩
  · have H8 := Lib.hid (fun w ht => app_no x w ht hx)
    have H9 := Lib.hid (fun w => sapp_no_b x w hx)
    clear hx
    refine Lib.hid ?_
    go_wp2_with (go_at_call 16; refine (H8.out _ HT8.out).mono ?_; rintro e w9 ⟨rfl, hb⟩; refine Hid.out ?_)
    have HT9 := Lib.hid (HT8.out.later hb)
    have HE9 := Lib.hid (HE8.out.later hb)
    have HC9 := Lib.hid (HC8.out.later hb (Nat.le_refl _))
    have HB9 := Lib.hid (HB8.out.trans (hb.mono HB8.out.size))
    clear hb HT8 HE8 HC8 HB8
    refine Lib.hid ?_
    go_wp2_with (go_at_call 17; refine (H9.out _).mono ?_; rintro e w10 ⟨rfl, hb⟩; refine Hid.out ?_)
    have HT10 := Lib.hid (HT9.out.later hb)
    have HE10 := Lib.hid (HE9.out.later hb)
    have HC10 := Lib.hid (HC9.out.later hb (Nat.le_refl _))
    have HB10 := Lib.hid (HB9.out.trans (hb.mono HB9.out.size))
    clear hb HT9 HE9 HC9 HB9
    refine Lib.hid ?_
    go_wp2_with (go_at_call 13; refine (H10.out _ HT10.out HE10.out).mono ?_; rintro e w11 ⟨rfl, hb⟩; refine Hid.out ?_)
    have HT11 := Lib.hid (HT10.out.later hb)
    have HE11 := Lib.hid (HE10.out.later hb)
    have HC11 := Lib.hid (HC10.out.later hb (Nat.le_refl _))
    have HB11 := Lib.hid (HB10.out.trans (hb.mono HB10.out.size))
    clear hb HT10 HE10 HC10 HB10
    cases O
    · refine Lib.hid ?_
      go_wp2_with fail
      go_ret
      exact ⟨rfl, HB11.out⟩
    · obtain ⟨rfl, rfl⟩ := HBack.out rfl
      refine Lib.hid ?_
      go_wp2_with fail
      go_ret
      exact ⟨rfl, HB11.out⟩
end Go.Proofs.YtcheogmnhooffaaDoor.S1
