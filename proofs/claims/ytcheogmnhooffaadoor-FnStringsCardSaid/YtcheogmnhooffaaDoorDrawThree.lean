/- How the law FnStrings draws its number and its texts: contracts. Conditions: each theorem's own premises. -/
import Derived.Test.YtcheogmnhooffaaDoorDrawTwo
import Derived.Test.YtcheogmnhooffaaDoorSpecOne
import Derived.Deep.OwnRows
import Derived.Laws.IdiomStrings
namespace Go.Proofs.YtcheogmnhooffaaDoor.S1
open Go.RowKit P1

/-- Numbers lie in a row of their own. -/
def Ti (b : Nat) (zs : List Int) (w : World) : Prop := ∀ j, j < zs.length → w.cell? ⟨b, j, none⟩ = some (.int .i64 (zs.getD j 0))
theorem ti_new (w : World) (zs : List Int) (t : TypeId) : Ti w.heap.size zs (w.alloc (.cells (zs.map (Value.int .i64)).toArray t)) := fun j hj => by
  rw [World.cell?_alloc_at _ _ _ _ rfl]
  simp [List.getD, hj]
theorem ti_lt {b : Nat} {zs : List Int} {w : World} (h : Ti b zs w) (h0 : 0 < zs.length) : b < w.heap.size := by
  have h00 := h 0 h0
  refine Decidable.byContradiction fun hlt => ?_
  unfold World.cell? at h00
  rw [Array.getElem?_eq_none (by simpa using hlt)] at h00
  cases h00
theorem grown_below {w w' : World} {g B : Nat} (h : w.grownBy w' (some g)) (hB : B ≤ g) (hBw : B ≤ w.heap.size) : Below B w w' :=
  ⟨h.os, h.tape, h.output, h.size, fun k hk => h.block k (by omega) (by simp; omega)⟩

/-- among: one of the numbers. -/
theorem among_any (B g : Nat) (a : Option Addr) (n cap K b N c : Nat) (zs : List Int) (w : World) (hN : N = zs.length) (hK : K ≤ 900000) (h0 : 1 ≤ zs.length) (h1 : zs.length ≤ 1000) (h : St B g a n cap K w) (ht : Ti b zs w) (hne : b ≠ g) :
    Calls Tryd.prog 21 #[.pointer (some ⟨g, 0, none⟩), .slice (some ⟨b, 0, none⟩) N c] w fun e w' => (∃ z : Int, e = .returned (.int .i64 z)) ∧ St B g a n cap (K + 2) w' ∧ w.grownBy w' (some g) := by
  subst hN
  have HS := Lib.hid h
  have HT := Lib.hid ht
  have hb := ti_lt ht h0
  clear h ht
  go_enter Tryd.func21, Tryd.ntmps21
  go_wp2_with (go_at_call 22; refine (pick_any B g a n cap K _ _ hK (by omega) (by omega) HS.out).mono ?_; rintro e w1 ⟨r, rfl, hr0, hr1, hs1, hg1⟩; refine Hid.out ?_)
  obtain ⟨j, rfl⟩ : ∃ j : Nat, r = (j : Int) := ⟨r.toNat, by omega⟩
  have hj : j < zs.length := by omega
  have hc : w1.cell? ⟨b, j, none⟩ = some (.int .i64 (zs.getD j 0)) := hg1.cell (HT.out j hj) (by simp; omega)
  have HS1 := Lib.hid hs1
  have HG1 := Lib.hid hg1
  clear hs1 hg1 HT
  generalize zs.getD j 0 = z at hc
  refine Lib.hid ?_
  go_wp2_with fail
  go_ret
  exact ⟨⟨z, rfl⟩, HS1.out, HG1.out⟩

theorem st_start {a : Option Addr} {n : Nat} (cap : Nat) {w : World} (h : Cd w.heap.size a n w) (hn : n ≤ 65536) : St w.heap.size w.heap.size a n cap 0 (w.alloc (.cells #[.slice a n cap, .int .i64 0, .int .u64 0] 37)) := by
  refine ⟨?_, ⟨0, 0, Nat.le_refl _, by simpa using (MapKept.heap_alloc w (.cells #[.slice a n cap, .int .i64 0, .int .u64 0] 37)).1⟩, Nat.le_refl _, hn⟩
  rcases h with h0 | ⟨b, off, ha, hb, hc⟩
  · exact .inl h0
  · refine .inr ⟨b, off, ha, hb, fun j hj => ?_⟩
    obtain ⟨v, hv, hcv⟩ := hc j hj
    exact ⟨v, hv, (World.cell?_alloc_past _ _ _ hb).trans hcv⟩
theorem Cd.later {B : Nat} {a : Option Addr} {n : Nat} {w w' : World} (h : Cd B a n w) (hb : Below w.heap.size w w') (hB : B ≤ w.heap.size) : Cd w'.heap.size a n w' := by
  rcases h with h0 | ⟨b, off, ha, hbB, hc⟩
  · exact .inl h0
  · refine .inr ⟨b, off, ha, by have := hb.size; omega, fun j hj => ?_⟩
    obtain ⟨v, hv, hcv⟩ := hc j hj
    exact ⟨v, hv, (hb.cell (p := ⟨b, off + j, none⟩) (show b < w.heap.size by omega)).trans hcv⟩
theorem below_of_start {w w1 : World} {o : Obj} (h : (w.alloc o).grownBy w1 (some w.heap.size)) : Below w.heap.size w w1 :=
  ((Below.refl _ _).alloc (Nat.le_refl _) o).trans (grown_below h (Nat.le_refl _) (by simp))

set_option maxHeartbeats 1000000 in
/-- DrawFormatInt: some number. -/
theorem dfmt_any (a : Option Addr) (n cap : Nat) (w : World) (hc : Cd w.heap.size a n w) (hn : n ≤ 65536) :
    Calls Tryd.prog 9 #[.slice a n cap] w fun e w' => (∃ z : Int, e = .returned (.int .i64 z)) ∧ Below w.heap.size w w' := by
  have HS := Lib.hid (st_start cap hc hn)
  clear hc
  go_enter Tryd.func9, Tryd.ntmps9
  go_wp2_with (go_at_call 22; refine (pick_any _ _ a n cap 0 _ _ (by omega) (by omega) (by omega) HS.out).mono ?_; rintro e w1 ⟨r, rfl, hr0, hr1, hs1, hg1⟩; refine Hid.out ?_)
  have HS1 := Lib.hid hs1
  have HG1 := Lib.hid (below_of_start hg1)
  have hlt : w.heap.size < w1.heap.size := by have := hg1.size; simp at this; omega
  clear hs1 hg1 HS
  refine Lib.hid ?_
  go_wp2_with fail
  refine (among_any w.heap.size w.heap.size a n cap 2 w1.heap.size 9 9 [0, 1, -1, 10, 999999, -999999, 1000000, -1000000, r - 500] _ rfl (by omega) (by simp) (by simp) (HS1.out.other ((Below.refl _ _).alloc (Nat.le_refl _) _)) (ti_new w1 _ 3) (by omega)).mono ?_
  rintro e w2 ⟨⟨z, rfl⟩, hs2, hg2⟩
  have HB2 := Lib.hid (HG1.out.trans ((((Below.refl w.heap.size w1).alloc (by omega) _)).trans (grown_below hg2 (Nat.le_refl _) (by simp; omega))))
  clear hs2 hg2
  go_wp2_with fail
  go_ret
  exact ⟨⟨z, rfl⟩, HB2.out⟩

def parseTexts : List ByteArray := [⟨#[]⟩, ⟨#[45]⟩, ⟨#[45, 48]⟩, ⟨#[48, 48]⟩, ⟨#[48, 49]⟩, ⟨#[45, 45, 49]⟩, ⟨#[49, 120]⟩, ⟨#[57, 57, 57, 57, 57, 57]⟩, ⟨#[49, 48, 48, 48, 48, 48, 48]⟩, ⟨#[45, 57, 57, 57, 57, 57, 57]⟩, ⟨#[49, 56, 52, 52, 54, 55, 52, 52, 48, 55, 51, 55, 48, 57, 53, 53, 49, 54, 49, 55]⟩]
theorem parseTexts_size : ∀ j, j < 11 → (parseTexts.getD j ByteArray.empty).size ≤ 100 := by decide

set_option maxHeartbeats 1000000 in
/-- DrawParseInt: a short text. -/
theorem dparse_any (a : Option Addr) (n cap : Nat) (w : World) (hc : Cd w.heap.size a n w) (hn : n ≤ 65536) :
    Calls Tryd.prog 12 #[.slice a n cap] w fun e w' => (∃ s : ByteArray, e = .returned (.string s) ∧ s.size ≤ 100) ∧ Below w.heap.size w w' := by
  have HS := Lib.hid (st_start cap hc hn)
  clear hc
  go_enter Tryd.func12, Tryd.ntmps12
  go_wp2_with (go_at_call 26; refine (one_any _ _ a n cap 0 _ _ (by omega) (by omega) (by omega) HS.out).mono ?_; rintro e w1 ⟨r, rfl, hs1, hg1⟩; refine Hid.out ?_)
  have HS1 := Lib.hid hs1
  have HG1 := Lib.hid (below_of_start hg1)
  have hlt : w.heap.size < w1.heap.size := by have := hg1.size; simp at this; omega
  clear hs1 hg1 HS
  cases r
  · refine Lib.hid ?_
    go_wp2_with (go_at_call 22; refine (pick_any _ _ a n cap 2 _ _ (by omega) (by omega) (by omega) HS1.out).mono ?_; rintro e w2 ⟨r, rfl, hr0, hr1, hs2, hg2⟩; refine Hid.out ?_)
    have HB2 := Lib.hid (HG1.out.trans (grown_below hg2 (Nat.le_refl _) (by omega)))
    have hsz := Lib.hid (itoa_len_seven (r - 1000) (by omega) (by omega))
    clear hs2 hg2 HS1
    refine Lib.hid ?_
    go_wp2_with (go_at_call 25; refine (num_any (r - 1000) _ (by omega) (by omega)).mono ?_; rintro e w3 ⟨rfl, d, rfl⟩)
    go_ret
    exact ⟨⟨_, rfl, by have := hsz.out; simp [ByteArray.size]; omega⟩, below_drewN HB2.out d⟩
  · refine Lib.hid ?_
    go_wp2_with fail
    refine (of_any w.heap.size w.heap.size a n cap 2 w1.heap.size 11 11 parseTexts _ rfl (by omega) (by decide) (by decide) (HS1.out.other ((Below.refl _ _).alloc (Nat.le_refl _) _)) (tx_new w1 _ 9) (by omega)).mono ?_
    rintro e w2 ⟨⟨j, hj, rfl⟩, hs2, hg2⟩
    have hsz := Lib.hid (parseTexts_size j hj)
    have HB2 := Lib.hid (HG1.out.trans ((((Below.refl w.heap.size w1).alloc (by omega) _)).trans (grown_below hg2 (Nat.le_refl _) (by simp; omega))))
    clear hs2 hg2
    generalize parseTexts.getD j ByteArray.empty = s at *
    go_wp2_with fail
    go_ret
    exact ⟨⟨s, rfl, hsz.out⟩, HB2.out⟩

theorem infoByteD : (Tryd.prog.info? 5).map (fun i => (i.zero, i.size, i.bytes)) = some (some (.int .u8 0), 1, 1) := by kernel_rfl
theorem made_cell (N j : Nat) (h : j < N) : (madeCells #[.int .u8 0] N)[j]? = some (.int .u8 0) := by
  simp [madeCells, h, Nat.mod_one]
theorem zeros (W : World) (N : Nat) : (convert 22 9 (.slice (some ⟨W.heap.size, 0, none⟩) N N)).run Tryd.prog (W.alloc (.cells (madeCells #[.int .u8 0] N) 5)) = .ok (.string ⟨(List.replicate N (0 : UInt8)).toArray⟩) (W.alloc (.cells (madeCells #[.int .u8 0] N) 5)) := by
  have h := run_convert_bytes_back (P := Tryd.prog) (W.alloc (.cells (madeCells #[.int .u8 0] N) 5)) 22 9 5 ⟨W.heap.size, 0, none⟩ N (List.replicate N (0 : UInt8)) Tryd.underlying22 Tryd.underlying5 Tryd.underlying9 (fun j hj => by
    have hj' : j < N := by simpa using hj
    have e : ((⟨W.heap.size, 0, none⟩ : Addr).add j) = ⟨W.heap.size, j, none⟩ := by unfold Addr.add; split <;> simp_all
    rw [e, World.cell?_alloc_at _ _ _ _ rfl, made_cell N j hj']
    simp)
  rw [List.length_replicate] at h
  exact h

set_option maxHeartbeats 1000000 in
/-- DrawAppendChecksum: a text of at most 4000 bytes. -/
theorem dapp_any (a : Option Addr) (n cap : Nat) (w : World) (hc : Cd w.heap.size a n w) (hn : n ≤ 65536) :
    Calls Tryd.prog 15 #[.slice a n cap] w fun e w' => (∃ s : ByteArray, e = .returned (.string s) ∧ s.size ≤ 4000) ∧ Below w.heap.size w w' := by
  have HS := Lib.hid (st_start cap hc hn)
  clear hc
  go_enter Tryd.func15, Tryd.ntmps15
  go_wp2_with (go_at_call 26; refine (one_any _ _ a n cap 0 _ _ (by omega) (by omega) (by omega) HS.out).mono ?_; rintro e w1 ⟨r, rfl, hs1, hg1⟩; refine Hid.out ?_)
  have HS1 := Lib.hid hs1
  have HG1 := Lib.hid (below_of_start hg1)
  have hlt : w.heap.size < w1.heap.size := by have := hg1.size; simp at this; omega
  clear hs1 hg1 HS
  cases r
  · refine Lib.hid ?_
    go_wp2_with (go_at_call 30; refine (any_any _ _ a n cap 2 _ (by omega) HS1.out).mono ?_; rintro e w2 ⟨⟨s, rfl, hsz⟩, hs2, hg2⟩)
    go_ret
    exact ⟨⟨s, rfl, by omega⟩, HG1.out.trans (grown_below hg2 (Nat.le_refl _) (by omega))⟩
  · refine Lib.hid ?_
    go_wp2_with (go_at_call 22; refine (pick_any _ _ a n cap 2 _ _ (by omega) (by omega) (by omega) HS1.out).mono ?_; rintro e w2 ⟨r, rfl, hr0, hr1, hs2, hg2⟩; refine Hid.out ?_)
    have HB2 := Lib.hid (HG1.out.trans (grown_below hg2 (Nat.le_refl _) (by omega)))
    have hlt2 : w.heap.size ≤ w2.heap.size := by have := hg2.size; omega
    clear hs2 hg2 HS1
    obtain ⟨N, hN⟩ : ∃ N : Nat, (N : Int) = 3990 + r := ⟨(3990 + r).toNat, by omega⟩
    have hN4 : N ≤ 4000 := by omega
    have hsum : (3990 : Int) + r = (N : Int) := hN.symm
    have hmk := run_make_row' (P := Tryd.prog) 22 5 (.int .u8 0) 1 Tryd.underlying22 infoByteD rfl .i64 .i64 N (by omega) (by omega)
    have hcv := zeros w2 N
    clear hN
    refine Lib.hid ?_
    go_wp2_with fail
    go_ret
    exact ⟨⟨_, rfl, by simp [ByteArray.size]; exact hN4⟩, HB2.out.alloc hlt2 _⟩

/-- vBig. -/
theorem vbig_no (a : Option Addr) (n cap : Nat) (w : World) (hn : n ≤ 65536) :
    Calls Tryd.prog 8 #[.slice a n cap] w fun e w' => e = .returned (.bool false) ∧ w' = w := by
  have hd : decide ((65536 : Int) < (n : Int)) = false := by simp; omega
  go_enter Tryd.func8, Tryd.ntmps8
  go_wp2
  go_ret
  exact ⟨rfl, rfl⟩
theorem vbig_yes (a : Option Addr) (n cap : Nat) (w : World) (hn : 65536 < n) :
    Calls Tryd.prog 8 #[.slice a n cap] w fun e w' => e = .returned (.bool true) ∧ w' = w := by
  have hd : decide ((65536 : Int) < (n : Int)) = true := by simp; omega
  go_enter Tryd.func8, Tryd.ntmps8
  go_wp2
  go_ret
  exact ⟨rfl, rfl⟩

/-- vAt: a number from 0 to 255. -/
theorem vat_any (B : Nat) (a : Option Addr) (n cap : Nat) (i : Int) (w : World) (hc : Cd B a n w) (hn : n ≤ 65536) (h0 : 0 ≤ i) (h1 : i ≤ 1000) :
    Calls Tryd.prog 19 #[.slice a n cap, .int .i64 i] w fun e w' => (∃ r : Int, e = .returned (.int .i64 r) ∧ 0 ≤ r ∧ r ≤ 255) ∧ w' = w := by
  obtain ⟨k, rfl⟩ : ∃ k : Nat, i = (k : Int) := ⟨i.toNat, by omega⟩
  by_cases hlt : k < n
  · rcases hc with hc | ⟨b, off, rfl, hb, hcell⟩
    · omega
    · obtain ⟨v, hv, hcv⟩ := hcell k hlt
      clear hcell
      have hkn : (k : Int) < (n : Int) := by omega
      go_enter Tryd.func19, Tryd.ntmps19
      go_wp2
      go_ret
      exact ⟨⟨_, rfl, by omega, by omega⟩, rfl⟩
  · have hkn : (n : Int) ≤ (k : Int) := by omega
    have hbd := Lib.hid (emod_bd ((k : Int) * 7 + (n : Int)) 256 (by omega))
    clear hc
    go_enter Tryd.func19, Tryd.ntmps19
    go_wp2
    go_ret
    exact ⟨⟨_, rfl, hbd.out.1, by have := hbd.out.2; omega⟩, rfl⟩
end Go.Proofs.YtcheogmnhooffaaDoor.S1
