/- TurnFlows of the model (chapter 10): contracts. Conditions: each theorem's own premises. -/
import Derived.Test.YtgjogjmfpbinfaaKQ
import Derived.Test.YtgjogjmfpbinfaaKT
import Derived.Deep.DeepCutAuto
import Derived.Test.YtgjogjmfpbinfaaKR
namespace Go.Proofs.Ytgjogjmfpbinfaa.S2
open Go.RowKit P2

theorem own_sl4 {w : World} {B n : Nat} {v : Value} {xs : List Value} {e : TypeId} {k : Nat} (h : w.ownsRow B e k v n xs) (hn : 0 < n) : ∃ g cap, v = .slice (some ⟨g, 0, none⟩) n cap ∧ B ≤ g := by
  rcases h.2 with ⟨_, h0⟩ | ⟨g, cap, cur, hv, hb, _⟩
  · omega
  · exact ⟨g, cap, hv, hb⟩
set_option maxHeartbeats 1000000 in
theorem l1own_any (A : Option Addr) (cap : Nat) (l : List Int) (w : World) (h : IAt w A l) (hn : 0 < l.length) (hl : l.length ≤ 10) :
    Calls Try.prog 192 #[.slice A l.length cap] w fun e w' => ∃ g c, e = .returned (.slice (some ⟨g, 0, none⟩) l.length c) ∧ w.heap.size ≤ g ∧ IOwn w' w.heap.size (.slice (some ⟨g, 0, none⟩) l.length c) l ∧ Below w.heap.size w w' := by
  obtain ⟨b, off, hA, hbl, _⟩ := h.at_ hn
  subst hA
  have hc : ∀ w', Below w.heap.size w w' → ∀ j u, (l.map iv)[j]? = some u → w'.cell? ((⟨b, off, none⟩ : Addr).add j) = some u := fun w' hb j u hu => by
    rw [List.getElem?_map] at hu
    obtain ⟨y, hy, rfl⟩ := Option.map_eq_some_iff.1 hu
    have hj : j < l.length := (List.getElem?_eq_some_iff.1 hy).1
    obtain ⟨b', off', hA', hbl', hx⟩ := (h.kept hb (Nat.le_refl _)).at_ hj
    simp only [Option.some.injEq, Addr.mk.injEq, and_true] at hA'
    obtain ⟨rfl, rfl⟩ := hA'
    rw [add_plus, hx]
    simp [List.getD, hy]
  have HC := Lib.hid hc
  obtain ⟨i0, hi, hz0, hz1, hz2⟩ := info_parts infoI
  have HO0 := Lib.hid (show (w.alloc (.cells #[] 3)).ownsRow w.heap.size 3 1 (.slice (some ⟨w.heap.size, 0, none⟩) 0 0) 0 [] from own_empty w w.heap.size (Nat.le_refl _))
  clear h hc
  go_enter Try.func192, Try.ntmps192
  go_wp2_with (at_builtin; go_must (refine wpList_append_own _ rfl _ _ 34 rfl w.heap.size 3 i0 (.int .i64 0) 1 8 Try.underlying34 hi hz0 hz1 hz2 rfl (by decide) _ _ _ rfl HO0.out ⟨b, off, none⟩ l.length cap (l.map iv) rfl (by simp) (HC.out _ ((Below.refl _ _).alloc (Nat.le_refl _) _)) (by intro u hu; obtain ⟨y, _, rfl⟩ := List.mem_map.1 hu; rfl) ?c3 ?c4 ?c5 ?_))
  case c3 => unfold maxLen; omega
  case c4 => omega
  case c5 => simp
  intro v' w3 hown' hgrow hnil
  obtain ⟨g, cg, rfl, hgg⟩ := own_sl4 hown' (by omega)
  have hB3 := Lib.hid (((Below.refl w.heap.size w).alloc (Nat.le_refl _) (.cells #[] 3)).grown hgrow (by simp) (fun g hg => (HO0.out.lt g hg).1))
  have HO3 := Lib.hid hown'
  clear hown' hgrow hnil HO0
  go_wp2_with fail
  go_ret
  exact ⟨g, cg, by simp, hgg, by unfold IOwn; simpa using HO3.out, hB3.out⟩
end Go.Proofs.Ytgjogjmfpbinfaa.S2

namespace Go.Proofs.Ytgjogjmfpbinfaa.S2
open Go.RowKit P2

/-- Flows to which a number is added in the pipes with the sign 1, subtracted in those with the sign -1. -/
def tuL (fl sg : List Int) (x : Int) : List Int := (List.range fl.length).map fun i => lA fl i + lA sg i * x
theorem tuL_len (fl sg : List Int) (x : Int) : (tuL fl sg x).length = fl.length := by simp [tuL]
theorem tuL_at {fl sg : List Int} {x : Int} {i : Nat} (h : i < fl.length) : lA (tuL fl sg x) i = lA fl i + lA sg i * x := by simp [tuL, lA, List.getD, h]
/-- Signs. -/
def Sg (s : Int) : Prop := s = 0 ∨ s = 1 ∨ s = -1
theorem sg_mul {s x b : Int} (hs : Sg s) (h1 : -b ≤ x) (h2 : x ≤ b) : -b ≤ s * x ∧ s * x ≤ b := by
  rcases hs with rfl | rfl | rfl
  · rw [Int.zero_mul]; omega
  · rw [Int.one_mul]; omega
  · rw [Int.neg_one_mul]; omega

theorem tuc_any (f s x : Int) (bx : Nat) (hs : Sg s) (hf : -100000 ≤ f ∧ f ≤ 100000) (hx : -100000 ≤ x ∧ x ≤ 100000) (w : World) (h : w.cell? ⟨bx, 0, none⟩ = some (.int .i64 x)) :
    Calls Try.prog 204 #[.int .i64 f, .int .i64 s, .pointer (some ⟨bx, 0, none⟩)] w fun e w' => e = .returned (.int .i64 (f + s * x)) ∧ Below w.heap.size w w' := by
  have hm := sg_mul hs hx.1 hx.2
  have wm : IntKind.i64.wrap (s * x) = s * x := w64 _ (by omega)
  have ws : IntKind.i64.wrap (f + s * x) = f + s * x := w64 _ (by omega)
  clear hs
  go_enter Try.func204, Try.ntmps204
  go_wp2
  go_ret
  exact ⟨rfl, Below.refl _ _⟩

set_option maxHeartbeats 2000000 in
set_option maxRecDepth 100000 in
theorem pwt_any (A : Option Addr) (cap : Nat) (L : List Int) (AH : Option Addr) (ch : Nat) (H : List Int) (w : World) (hL : IAt w A L) (hH : IAt w AH H) (hlen : H.length = L.length) (hl8 : L.length ≤ 1000) (x : Int) (bx : Nat) (hbx : bx < w.heap.size) (hcx : w.cell? ⟨bx, 0, none⟩ = some (.int .i64 x)) (hx : -100000 ≤ x ∧ x ≤ 100000) (hf : ∀ i, i < L.length → -100000 ≤ lA L i ∧ lA L i ≤ 100000) (hs : ∀ i, i < L.length → Sg (lA H i)) :
    Calls Try.prog 141 #[.slice A L.length cap, .slice AH H.length ch, .func (.func 204) #[] #[.pointer (some ⟨bx, 0, none⟩)]] w fun e w' => (∃ g, e = .returned (.slice (some ⟨g, 0, none⟩) L.length L.length) ∧ w.heap.size ≤ g ∧ IOwn w' w.heap.size (.slice (some ⟨g, 0, none⟩) L.length L.length) (tuL L H x)) ∧ Below w.heap.size w w' := by
  have HA := Lib.hid (fun w' (hb : Below w.heap.size w w') => hL.kept hb (Nat.le_refl _))
  have HI := Lib.hid (fun w' (hb : Below w.heap.size w w') => hH.kept hb (Nat.le_refl _))
  have HC := Lib.hid (fun k (hk : k < L.length) w' (hb : Below w.heap.size w w') => tuc_any (lA L k) (lA H k) x bx (hs k hk) (hf k hk) hx w' ((hb.cell (p := ⟨bx, 0, none⟩) hbx).trans hcx))
  have HL := Lib.hid hlen
  have HSL := Lib.hid (show (tuL L H x).length = L.length from tuL_len L H x)
  have HSA := Lib.hid (fun k (hk : k < L.length) => tuL_at (sg := H) (x := x) hk)
  have hmk := run_make_row' (P := Try.prog) 34 3 (.int .i64 0) 8 Try.underlying34 infoI rfl .i64 .i64 L.length (by omega) (by omega)
  have HO := made_row (tuL L H x) w (by rw [HSL.out]; omega)
  have HF := Lib.hid (fiI_full (tuL L H x))
  rw [HSL.out] at HO HF
  clear hL hH hlen hf hs hcx hx
  go_enter Try.func141, Try.ntmps141
  go_wp2
  clear hmk
  go_loopw [15] (fun i wr => ∃ k : Nat, k ≤ L.length ∧ i = .int .i64 k ∧ Hid (wr.ownsRow w.heap.size 3 1 (.slice (some ⟨w.heap.size, 0, none⟩) L.length L.length) L.length (fiI (tuL L H x) k)) ∧ Hid (Below w.heap.size w wr)) (fun i _ => L.length - (intOf i).toNat)
  case atStart => exact ⟨0, Nat.zero_le _, rfl, HO, Lib.hid ((Below.refl _ _).alloc (Nat.le_refl _) _)⟩
  case round =>
    obtain ⟨k, hk, rfl, hown, hB⟩ := hrel
    clear HO
    by_cases hlt : k < L.length
    · obtain ⟨b, off, hA, hbl, p0⟩ := (HA.out _ hB.out).at_ hlt
      subst hA
      have hkf : k < H.length := by rw [HL.out]; exact hlt
      obtain ⟨bb, of2, hA2, hbl2, q0⟩ := (HI.out _ hB.out).at_ hkf
      subst hA2
      have hk0 : (0 : Int) ≤ (k : Int) := by omega
      have hkn : (k : Int) < (L.length : Int) := by omega
      have hknf : (k : Int) < (H.length : Int) := by omega
      have HLO := Lib.hid (HC.out k hlt)
      have hgx := (hown.out.lt w.heap.size rfl).2
      have hfs := fiI_set (tuL L H x) k (by rw [HSL.out]; exact hlt)
      have hat := HSA.out k hlt
      obtain ⟨uo, huo⟩ := fiI_has (tuL L H x) k (by rw [HSL.out]; exact hlt)
      have HUO := Lib.hid huo
      unfold lA at hat HLO
      rw [hat] at hfs
      have HST := Lib.hid hfs
      clear hfs hat huo
      generalize L.getD k 0 = x0 at *
      generalize H.getD k 0 = y0 at *
      have hO2 := hown
      go_wp2_with (go_at_call 204; refine (HLO.out _ hB.out).mono ?_; rintro e wq ⟨rfl, hbq⟩; refine Hid.out ?_)
      have hO3 := own_on hO2.out hbq
      have hcell := (hO3.cellAt k (by omega)).trans HUO.out
      have hfz := hO3.frozenAt k
      have hgq := (hO3.lt w.heap.size rfl).2
      have HB3 := Lib.hid (hB.out.trans (hbq.mono hB.out.size))
      have hst := hO3.stored k (iv (x0 + y0 * x))
      rw [HST.out] at hst
      have HRL := Lib.hid hst.1
      clear hO3 hbq hst
      refine Lib.hid ?_
      go_wp2
      go_roundw
      case rel => exact ⟨k + 1, by omega, by go_num, HRL, Lib.hid (HB3.out.setCell (p := ⟨w.heap.size, k, none⟩) (Nat.le_refl _) _)⟩
      case measure => simp [intOf]; omega
    · have e : k = L.length := by omega
      subst e
      have hown2 := hown.out
      rw [HF.out] at hown2
      have H2 := Lib.hid hown2
      clear hown hown2
      go_wp2
      go_ret
      exact ⟨⟨_, rfl, Nat.le_refl _, by have := H2.out; unfold IOwn; rw [HSL.out]; exact this⟩, hB.out⟩

set_option maxHeartbeats 1000000 in
theorem turned_any (A : Option Addr) (cap : Nat) (L : List Int) (AH : Option Addr) (ch : Nat) (H : List Int) (x : Int) (w : World) (hL : IAt w A L) (hH : IAt w AH H) (hlen : H.length = L.length) (hl8 : L.length ≤ 1000) (hx : -100000 ≤ x ∧ x ≤ 100000) (hf : ∀ i, i < L.length → -100000 ≤ lA L i ∧ lA L i ≤ 100000) (hs : ∀ i, i < L.length → Sg (lA H i)) :
    Calls Try.prog 125 #[.slice A L.length cap, .slice AH H.length ch, .int .i64 x] w fun e w' => (∃ g, e = .returned (.slice (some ⟨g, 0, none⟩) L.length L.length) ∧ w.heap.size ≤ g ∧ IOwn w' w.heap.size (.slice (some ⟨g, 0, none⟩) L.length L.length) (tuL L H x)) ∧ Below w.heap.size w w' := by
  have hb0 : Below w.heap.size w (w.alloc (.cells #[.int .i64 x] 3)) := (Below.refl _ _).alloc (Nat.le_refl _) _
  have HP := Lib.hid (pwt_any A cap L AH ch H (w.alloc (.cells #[.int .i64 x] 3)) (hL.kept hb0 (Nat.le_refl _)) (hH.kept hb0 (Nat.le_refl _)) hlen hl8 x w.heap.size (by simp) (by simp) hx hf hs)
  have HB0 := Lib.hid hb0
  clear hL hH hlen hf hs hb0
  go_enter Try.func125, Try.ntmps125
  go_wp2_with (go_at_call 141; refine HP.out.mono ?_; rintro e w2 ⟨⟨g, rfl, hg, hO⟩, hb2⟩)
  go_ret
  exact ⟨⟨g, rfl, by simp at hg; omega, own_lower hO (by simp)⟩, HB0.out.trans (hb2.mono (by simp))⟩
end Go.Proofs.Ytgjogjmfpbinfaa.S2

namespace Go.Proofs.Ytgjogjmfpbinfaa.S2
open Go.RowKit P2

/-- The first k are turned. -/
def tuK (fl sg : List Int) (x : Int) (k : Nat) : List Int := (List.range fl.length).map fun i => if i < k then lA fl i + lA sg i * x else lA fl i
theorem tuK_len (fl sg : List Int) (x : Int) (k : Nat) : (tuK fl sg x k).length = fl.length := by simp [tuK]
theorem tuK_zero (fl sg : List Int) (x : Int) : tuK fl sg x 0 = fl := by
  apply List.ext_getElem
  · simp [tuK]
  · intro i h1 h2
    simp [tuK, lA, List.getD, h2]
theorem tuK_at {fl sg : List Int} {x : Int} {k : Nat} (_h : k < fl.length) : lA (tuK fl sg x k) k = lA fl k := by simp [tuK, lA, List.getD, _h]
theorem tuK_set {fl sg : List Int} {x : Int} {k : Nat} (_h : k < fl.length) : (tuK fl sg x k).set k (lA fl k + lA sg k * x) = tuK fl sg x (k + 1) := by
  apply List.ext_getElem
  · simp [tuK]
  · intro i h1 h2
    have hi : i < fl.length := by simpa [tuK] using h2
    rw [List.getElem_set]
    by_cases e : k = i
    · subst e; simp [tuK]
    · rw [if_neg e]
      simp only [tuK, List.getElem_map, List.getElem_range]
      by_cases h3 : i < k
      · rw [if_pos h3, if_pos (by omega)]
      · rw [if_neg h3, if_neg (by omega)]
theorem tuK_all (fl sg : List Int) (x : Int) : tuK fl sg x fl.length = tuL fl sg x := by
  apply List.ext_getElem
  · simp [tuK, tuL]
  · intro i h1 h2
    have hi : i < fl.length := by simpa [tuL] using h2
    simp [tuK, tuL, hi]

set_option maxHeartbeats 2000000 in
set_option maxRecDepth 100000 in
theorem stu_any (AS : Option Addr) (cs : Nat) (sg : List Int) (A : Option Addr) (cap : Nat) (fl : List Int) (x : Int) (w : World) (hS : IAt w AS sg) (hF : IAt w A fl) (hlen : sg.length = fl.length) (h1 : 0 < fl.length) (h10 : fl.length ≤ 10) (hx : -100000 ≤ x ∧ x ≤ 100000) (hf : ∀ i, i < fl.length → -100000 ≤ lA fl i ∧ lA fl i ≤ 100000) (hs : ∀ i, i < fl.length → Sg (lA sg i)) :
    Calls Try.prog 123 #[.slice AS sg.length cs, .slice A fl.length cap, .int .i64 x] w (GivesL w (tuL fl sg x)) := by
  have HOW := Lib.hid (l1own_any A cap fl w hF h1 h10)
  obtain ⟨b, off, hA, hbw, _⟩ := hS.at_ (i := 0) (by omega)
  subst hA
  have HSA := Lib.hid (fun w' (hb : Below w.heap.size w w') => hS.kept hb (Nat.le_refl _))
  have HL := Lib.hid hlen
  have HKL := Lib.hid (fun k => tuK_len fl sg x k)
  have HKZ := Lib.hid (tuK_zero fl sg x)
  have HKA := Lib.hid (tuK_all fl sg x)
  have HTL := Lib.hid (tuL_len fl sg x)
  have HK := Lib.hid (fun k (hk : k < fl.length) => tuK_at (sg := sg) (x := x) hk)
  have HKS := Lib.hid (fun k (hk : k < fl.length) => tuK_set (sg := sg) (x := x) hk)
  have HF := Lib.hid hf
  have HSG := Lib.hid hs
  clear hS hF hlen hf hs
  go_enter Try.func123, Try.ntmps123
  go_wp2_with (go_at_call 192; refine HOW.out.mono ?_; rintro e w1 ⟨g, c, rfl, hg, hO, hb1⟩; have HB1 := Lib.hid hb1; have HO1 := Lib.hid hO; clear hb1 hO)
  have HO2 := Lib.hid (show IOwn w1 w.heap.size (.slice (some ⟨g, 0, none⟩) fl.length c) (tuK fl sg x 0) by rw [HKZ.out]; exact HO1.out)
  clear HO1 HOW
  go_loopw [8] (fun i wr => ∃ k : Nat, k ≤ fl.length ∧ i = .int .i64 (k : Int) ∧ Hid (IOwn wr w.heap.size (.slice (some ⟨g, 0, none⟩) fl.length c) (tuK fl sg x k)) ∧ Hid (Below w.heap.size w wr)) (fun i _ => fl.length - (intOf i).toNat)
  case atStart => exact ⟨0, Nat.zero_le _, rfl, HO2, HB1⟩
  case round =>
    clear HO2 HB1
    obtain ⟨k, hk, rfl, hown, hB⟩ := hrel
    by_cases hlt : k < fl.length
    · have hks : k < sg.length := by rw [HL.out]; exact hlt
      obtain ⟨b', off', hA, hbl, p0⟩ := (HSA.out _ hB.out).at_ hks
      simp only [Option.some.injEq, Addr.mk.injEq, and_true] at hA
      obtain ⟨rfl, rfl⟩ := hA
      have hbg : b ≠ g := by omega
      have hk0 : (0 : Int) ≤ (k : Int) := by omega
      have hkn : (k : Int) < (fl.length : Int) := by omega
      have hkns : (k : Int) < (sg.length : Int) := by omega
      have hgl := World.ownsRow.lt hown.out g rfl
      have hc := hown.out.cell (HKL.out k) (v := k) (by rw [HKL.out]; exact hlt)
      have hfz := hown.out.frozen (HKL.out k) k
      have hda : dA (tuK fl sg x k) k = lA fl k := HK.out k hlt
      rw [hda] at hc
      have hla : sg.getD k 0 = lA sg k := rfl
      rw [hla] at p0
      have hkb := HF.out k hlt
      have hsk := HSG.out k hlt
      have hmm := sg_mul hsk hx.1 hx.2
      have wm : IntKind.i64.wrap (lA sg k * x) = lA sg k * x := w64 _ (by omega)
      have ws : IntKind.i64.wrap (lA fl k + lA sg k * x) = lA fl k + lA sg k * x := w64 _ (by omega)
      have HN := Lib.hid (show IOwn (wr.drew.setCell ⟨g, k, none⟩ (iv (lA fl k + lA sg k * x))) w.heap.size (.slice (some ⟨g, 0, none⟩) fl.length c) (tuK fl sg x (k + 1)) by rw [← HKS.out k hlt]; exact IOwn.set (show IOwn wr.drew w.heap.size (.slice (some ⟨g, 0, none⟩) fl.length c) (tuK fl sg x k) from hown.out) (HKL.out k) k _)
      have HBn := Lib.hid (hB.out.drew.setCell (p := ⟨g, k, none⟩) hgl.1 (iv (lA fl k + lA sg k * x)))
      have hc2 : wr.drew.cell? ⟨g, k, none⟩ = some (iv (lA fl k)) := hc
      have hf2 : wr.drew.frozen? ⟨g, k, none⟩ = false := hfz
      clear hown hB hda hla hsk
      generalize lA fl k = f at *
      generalize lA sg k = s at *
      go_wp2
      refine wp_region_held_drew (S := fun w' => w'.cell? ⟨b, off + k, none⟩ = some (iv s)) (by kernel_rfl) (by exact p0) (fun hHeld => ?_)
      refine wpAnyH_take (i := 0) (v := .slice (some ⟨g, 0, none⟩) fl.length c) rfl (by kernel_rfl) (by kernel_rfl) (by kernel_rfl) (fun _ _ _ h => h) (Or.inl ⟨by kernel_rfl, ?_⟩) (by assumption) ?_
      · (intro w hSw; (try dsimp only at hSw); go_simp)
      simp only [Act.put, List.setIfInBounds_toArray]
      refine wpAnyH_take (i := 1) (v := .int .i64 (k : Int)) rfl (by kernel_rfl) (by kernel_rfl) (by kernel_rfl) (fun _ _ _ h => h) (Or.inl ⟨by kernel_rfl, ?_⟩) (by assumption) ?_
      · (intro w hSw; (try dsimp only at hSw); go_simp)
      simp only [Act.put]
      refine wpAnyH_take (i := 2) (v := .slice (some ⟨g, 0, none⟩) fl.length c) rfl (by kernel_rfl) (by kernel_rfl) (by kernel_rfl) (fun _ _ _ h => h) (Or.inl ⟨by kernel_rfl, ?_⟩) (by assumption) ?_
      · (intro w hSw; (try dsimp only at hSw); go_simp)
      simp only [Act.put]
      refine wpAnyH_take (i := 3) (v := .int .i64 (k : Int)) rfl (by kernel_rfl) (by kernel_rfl) (by kernel_rfl) (fun _ _ _ h => h) (Or.inl ⟨by kernel_rfl, ?_⟩) (by assumption) ?_
      · (intro w hSw; (try dsimp only at hSw); go_simp)
      simp only [Act.put]
      refine wpAnyH_take (i := 4) (v := .pointer (some ⟨g, k, none⟩)) rfl (by kernel_rfl) (by kernel_rfl) (by kernel_rfl) (fun _ _ _ h => h) (Or.inl ⟨by kernel_rfl, ?_⟩) (by assumption) ?_
      · (intro w hSw; (try dsimp only at hSw); go_simp)
      simp only [Act.put]
      refine wpAnyH_take (i := 6) (v := .slice (some ⟨b, off, none⟩) sg.length cs) rfl (by kernel_rfl) (by kernel_rfl) (by kernel_rfl) (fun _ _ _ h => h) (Or.inl ⟨by kernel_rfl, ?_⟩) (by assumption) ?_
      · (intro w hSw; (try dsimp only at hSw); go_simp)
      simp only [Act.put]
      refine wpAnyH_take (i := 7) (v := .int .i64 (k : Int)) rfl (by kernel_rfl) (by kernel_rfl) (by kernel_rfl) (fun _ _ _ h => h) (Or.inl ⟨by kernel_rfl, ?_⟩) (by assumption) ?_
      · (intro w hSw; (try dsimp only at hSw); go_simp)
      simp only [Act.put]
      refine wpAnyH_take (i := 8) (v := .pointer (some ⟨b, off + k, none⟩)) rfl (by kernel_rfl) (by kernel_rfl) (by kernel_rfl) (fun _ _ _ h => h) (Or.inl ⟨by kernel_rfl, ?_⟩) (by assumption) ?_
      · (intro w hSw; (try dsimp only at hSw); go_simp)
      simp only [Act.put]
      refine wpAnyH_take (i := 9) (v := iv s) rfl (by kernel_rfl) (by kernel_rfl) (by kernel_rfl) (fun _ _ _ h => h) (Or.inl ⟨by kernel_rfl, ?_⟩) (by assumption) ?_
      · (intro w hSw; (try dsimp only at hSw); go_simp)
      simp only [Act.put]
      refine wpAnyH_take (i := 10) (v := .int .i64 x) rfl (by kernel_rfl) (by kernel_rfl) (by kernel_rfl) (fun _ _ _ h => h) (Or.inl ⟨by kernel_rfl, ?_⟩) (by assumption) ?_
      · (intro w hSw; (try dsimp only at hSw); go_simp)
      simp only [Act.put]
      refine wpAnyH_take (i := 11) (v := .int .i64 (s * x)) rfl (by kernel_rfl) (by kernel_rfl) (by kernel_rfl) (fun _ _ _ h => h) (Or.inl ⟨by kernel_rfl, ?_⟩) (by assumption) ?_
      · (intro w hSw; (try dsimp only at hSw); go_simp)
      simp only [Act.put]
      refine wpAnyH_ready (rs := [5]) (by kernel_rfl) (by simp) ?_
      refine AllReadyH.cons rfl (fun K hK => ?_) AllReadyH.nil
      go_simp
      refine hK.out _ _ (by first | assumption | go_keep) (fun hHeld => ?_)
      clear hK K
      refine wpAnyH_take (i := 12) (v := .int .i64 (f + s * x)) rfl (by kernel_rfl) (by kernel_rfl) (by kernel_rfl) (fun _ _ _ h => h) (Or.inl ⟨by kernel_rfl, ?_⟩) (by assumption) ?_
      · (intro w hSw; (try dsimp only at hSw); go_simp)
      simp only [Act.put]
      refine wpAnyH_ready (rs := [13]) (by kernel_rfl) (by simp) ?_
      refine AllReadyH.cons rfl (fun K hK => ?_) AllReadyH.nil
      go_simp
      refine hK.out _ _ (by first | assumption | go_keep) (fun hHeld => ?_)
      clear hK K
      refine wpAnyH_ready (rs := [14]) (by kernel_rfl) (by simp) ?_
      refine AllReadyH.cons rfl (fun K hK => ?_) AllReadyH.nil
      go_simp
      refine hK.out _ _ (by exact (cell_farS hbg).trans hHeld) (fun hHeld => ?_)
      clear hK K
      refine wpAnyH_done (by kernel_rfl) ?_ _
      go_wp2
      go_roundw
      case rel => exact ⟨k + 1, by omega, by go_num, HN, HBn⟩
      case measure => simp [intOf]; omega
    · have hkk : k = fl.length := by omega
      have HO := Lib.hid hown.out
      rw [hkk, HKA.out] at HO
      have hlq : ¬ (k : Int) < (sg.length : Int) := by have := HL.out; omega
      clear hown hkk
      go_wp2
      go_ret
      exact ⟨g, c, by rw [HTL.out]; rfl, hg, by rw [HTL.out]; exact HO.out, hB.out⟩
end Go.Proofs.Ytgjogjmfpbinfaa.S2

namespace Go.Proofs.Ytgjogjmfpbinfaa.S2
open Go.RowKit P2

/-- Flows that can be turned, and are flows behind it. -/
noncomputable def tnB (N : Nat) (ps : List Pp) (fl : List Int) (x : Int) : Bool := ringB N ps && floB N ps fl && decide ((-8000 : Int) ≤ x ∧ x ≤ 8000)
theorem sgL_sg (N : Nat) (ps : List Pp) (i : Nat) : Sg (lA (sgL N ps) i) := sgL_in N ps i
theorem flo_b {n : Int} {ps : List Pp} {fl : List Int} (h : floB n ps fl = true) {i : Nat} (hi : i < fl.length) : -100000 ≤ lA fl i ∧ lA fl i ≤ 100000 := by
  have := allR_at (floB_of h).2.2 hi
  unfold lA; omega

set_option maxHeartbeats 2000000 in
theorem tn_no1 (n : Int) (A : Option Addr) (cap : Nat) (ps : List Pp) (AD : Option Addr) (dc : Nat) (fl : List Int) (x : Int) (w : World) (hT : ∀ w', Below w.heap.size w w' → Calls Try.prog 119 #[nv n A ps.length cap] w' (GivesI w' [] false)) :
    Calls Try.prog 32 #[nv n A ps.length cap, .slice AD fl.length dc, .int .i64 x] w (GivesI w [] false) := by
  have H := Lib.hid hT
  clear hT
  go_enter Try.func32, Try.ntmps32
  go_wp2_with (go_at_call 119; refine (H.out _ ((Below.refl _ _).alloc (Nat.le_refl _) _)).mono ?_; rintro e w1 ⟨g, c, rfl, hg, hO, hb1⟩)
  go_ret2
  exact gives_none (below_alloc_call hb1)
set_option maxHeartbeats 2000000 in
theorem tn_no2 (N : Nat) (A : Option Addr) (cap : Nat) (ps : List Pp) (AD : Option Addr) (dc : Nat) (fl : List Int) (x : Int) (w : World) (h : PAt w A ps) (hm : ps.length ≤ maxLen) (hd : IAt w AD fl) (hdl : fl.length ≤ 1048576) (hv : floB N ps fl = false) (hT : ∀ w', Below w.heap.size w w' → Calls Try.prog 119 #[nv N A ps.length cap] w' (GivesI w' (sgL N ps) true)) :
    Calls Try.prog 32 #[nv N A ps.length cap, .slice AD fl.length dc, .int .i64 x] w (GivesI w [] false) := by
  have H := Lib.hid hT
  have H2 := Lib.hid (fun w' (hb : Below w.heap.size w w') => flo_v hv A cap AD dc w' (h.kept hb (Nat.le_refl _)) hm (hd.kept hb (Nat.le_refl _)) hdl)
  clear hT h hd hv
  go_enter Try.func32, Try.ntmps32
  go_wp2_with (first
    | (go_at_call 119; refine (H.out _ ((Below.refl _ _).alloc (Nat.le_refl _) _)).mono ?_; rintro e w1 ⟨g, c, rfl, hg, hO, hb1⟩; have HX1 := Lib.hid (show Below (w.heap.size + 1) (w.alloc (nb N A ps.length cap)) w1 by simpa using hb1); obtain ⟨b0, b1⟩ := box2 HX1.out; have hy1 := box_lt HX1.out; clear hb1)
    | (go_at_call 124; refine (H2.out _ (below_box HX1.out)).mono ?_; rintro e w2 ⟨rfl, hb2⟩; have HX2 := Lib.hid (on_call HX1.out hb2)))
  go_ret2
  exact gives_none (below_box HX2.out)
set_option maxHeartbeats 2000000 in
theorem tn_no3 (N : Nat) (A : Option Addr) (cap : Nat) (ps : List Pp) (AD : Option Addr) (dc : Nat) (fl : List Int) (x : Int) (w : World) (h : PAt w A ps) (hm : ps.length ≤ maxLen) (hd : IAt w AD fl) (hdl : fl.length ≤ 1048576) (hv : floB N ps fl = true) (hx : x < -8000 ∨ 8000 < x) (hT : ∀ w', Below w.heap.size w w' → Calls Try.prog 119 #[nv N A ps.length cap] w' (GivesI w' (sgL N ps) true)) :
    Calls Try.prog 32 #[nv N A ps.length cap, .slice AD fl.length dc, .int .i64 x] w (GivesI w [] false) := by
  have H := Lib.hid hT
  have H2 := Lib.hid (fun w' (hb : Below w.heap.size w w') => flo_v hv A cap AD dc w' (h.kept hb (Nat.le_refl _)) hm (hd.kept hb (Nat.le_refl _)) hdl)
  clear hT h hd hv
  by_cases h0 : x < -8000
  · have d0 : decide (x < -8000) = true := decide_eq_true h0
    clear hx h0
    go_enter Try.func32, Try.ntmps32
    go_wp2_with (first
      | (go_at_call 119; refine (H.out _ ((Below.refl _ _).alloc (Nat.le_refl _) _)).mono ?_; rintro e w1 ⟨g, c, rfl, hg, hO, hb1⟩; have HX1 := Lib.hid (show Below (w.heap.size + 1) (w.alloc (nb N A ps.length cap)) w1 by simpa using hb1); obtain ⟨b0, b1⟩ := box2 HX1.out; have hy1 := box_lt HX1.out; clear hb1)
      | (go_at_call 124; refine (H2.out _ (below_box HX1.out)).mono ?_; rintro e w2 ⟨rfl, hb2⟩; have HX2 := Lib.hid (on_call HX1.out hb2)))
    go_ret2
    exact gives_none (below_box HX2.out)
  · have d0 : decide (x < -8000) = false := decide_eq_false h0
    have d1 : decide (8000 < x) = true := decide_eq_true (by omega)
    clear hx h0
    go_enter Try.func32, Try.ntmps32
    go_wp2_with (first
      | (go_at_call 119; refine (H.out _ ((Below.refl _ _).alloc (Nat.le_refl _) _)).mono ?_; rintro e w1 ⟨g, c, rfl, hg, hO, hb1⟩; have HX1 := Lib.hid (show Below (w.heap.size + 1) (w.alloc (nb N A ps.length cap)) w1 by simpa using hb1); obtain ⟨b0, b1⟩ := box2 HX1.out; have hy1 := box_lt HX1.out; clear hb1)
      | (go_at_call 124; refine (H2.out _ (below_box HX1.out)).mono ?_; rintro e w2 ⟨rfl, hb2⟩; have HX2 := Lib.hid (on_call HX1.out hb2)))
    go_ret2
    exact gives_none (below_box HX2.out)
set_option maxHeartbeats 2000000 in
theorem tn_yes (N : Nat) (A : Option Addr) (cap : Nat) (ps : List Pp) (AD : Option Addr) (dc : Nat) (fl : List Int) (x : Int) (w : World) (h : PAt w A ps) (hm : ps.length ≤ maxLen) (hd : IAt w AD fl) (hv : floB N ps fl = true) (hx : -8000 ≤ x ∧ x ≤ 8000) (hT : ∀ w', Below w.heap.size w w' → Calls Try.prog 119 #[nv N A ps.length cap] w' (GivesI w' (sgL N ps) true)) :
    Calls Try.prog 32 #[nv N A ps.length cap, .slice AD fl.length dc, .int .i64 x] w (GivesI w (if floB N ps (tuL fl (sgL N ps) x) = true then tuL fl (sgL N ps) x else []) (floB N ps (tuL fl (sgL N ps) x))) := by
  obtain ⟨hg, hfl, hr⟩ := floB_of hv
  have hl10 := hg.2.2.1
  have H := Lib.hid hT
  have H2 := Lib.hid (fun w' (hb : Below w.heap.size w w') => flo_v hv A cap AD dc w' (h.kept hb (Nat.le_refl _)) hm (hd.kept hb (Nat.le_refl _)) (by omega))
  have HSL := Lib.hid (sgL_len N ps)
  have H3 := Lib.hid (show ∀ g c w', Below w.heap.size w w' → IAt w' (some ⟨g, 0, none⟩) (sgL N ps) → Calls Try.prog 125 #[.slice AD fl.length dc, .slice (some ⟨g, 0, none⟩) (sgL N ps).length c, .int .i64 x] w' _ from fun g c w' hb hi => turned_any AD dc fl (some ⟨g, 0, none⟩) c (sgL N ps) x w' (hd.kept hb (Nat.le_refl _)) hi (by rw [sgL_len]; omega) (by omega) (by omega) (fun i hi => flo_b hv hi) (fun i _ => sgL_sg N ps i))
  obtain ⟨u, hu⟩ : ∃ u, floB N ps (tuL fl (sgL N ps) x) = u := ⟨_, rfl⟩
  have HTL := Lib.hid (tuL_len fl (sgL N ps) x)
  have H4 := Lib.hid (show ∀ g c w', Below w.heap.size w w' → IAt w' (some ⟨g, 0, none⟩) (tuL fl (sgL N ps) x) → Calls Try.prog 124 #[nv N A ps.length cap, .slice (some ⟨g, 0, none⟩) fl.length c] w' fun e w2 => e = .returned (.bool u) ∧ Below w'.heap.size w' w2 from fun g c w' hb hi => by
    have := flo_v hu A cap (some ⟨g, 0, none⟩) c w' (h.kept hb (Nat.le_refl _)) hm hi (by rw [tuL_len]; omega)
    rw [tuL_len] at this
    exact this)
  rw [hu]
  have d0 : decide (x < -8000) = false := decide_eq_false (by omega)
  have d1 : decide (8000 < x) = false := decide_eq_false (by omega)
  clear hT h hd hv hg hr hfl hu hx
  have ARM := True.intro
  cases u with
  | false =>
    go_enter Try.func32, Try.ntmps32
    go_wp2_with (first
      | (go_at_call 119; refine (H.out _ ((Below.refl _ _).alloc (Nat.le_refl _) _)).mono ?_; rintro e w1 ⟨g, c, rfl, hg, hO, hb1⟩; have HX1 := Lib.hid (show Below (w.heap.size + 1) (w.alloc (nb N A ps.length cap)) w1 by simpa using hb1); obtain ⟨b0, b1⟩ := box2 HX1.out; have hy1 := box_lt HX1.out; have HO1 := Lib.hid hO.iat; clear hb1 hO)
      | (go_at_call 125; refine (H3.out _ _ _ (below_box HX2.out) HO2.out).mono ?_; rintro e w3 ⟨⟨g3, rfl, hg3, hO3⟩, hb3⟩; have HX3 := Lib.hid (on_call HX2.out hb3); clear b0 b1; obtain ⟨b0, b1⟩ := box2 HX3.out; have hy3 := box_lt HX3.out; have HO3 := Lib.hid (IOwn.iat (cap := fl.length) (by rw [HTL.out]; exact hO3 : IOwn w3 _ (.slice (some ⟨g3, 0, none⟩) (tuL fl (sgL N ps) x).length fl.length) _)); clear hb3 hO3)
      | (go_at_call_of 124 (Value.slice AD fl.length dc); refine (H2.out _ (below_box HX1.out)).mono ?_; rintro e w2 ⟨rfl, hb2⟩; have HX2 := Lib.hid (on_call HX1.out hb2); clear b0 b1; obtain ⟨b0, b1⟩ := box2 HX2.out; have hy2 := box_lt HX2.out; have HO2 := Lib.hid (HO1.out.kept hb2 (Nat.le_refl _)); clear hb2)
      | (go_at_call 124; refine (H4.out _ _ _ (below_box HX3.out) HO3.out).mono ?_; rintro e w4 ⟨rfl, hb4⟩; have HX4 := Lib.hid (on_call HX3.out hb4); clear hb4))
    go_ret2
    exact gives_none (below_box HX4.out)
  | true =>
    go_enter Try.func32, Try.ntmps32
    go_wp2_with (first
      | (go_at_call 119; refine (H.out _ ((Below.refl _ _).alloc (Nat.le_refl _) _)).mono ?_; rintro e w1 ⟨g, c, rfl, hg, hO, hb1⟩; have HX1 := Lib.hid (show Below (w.heap.size + 1) (w.alloc (nb N A ps.length cap)) w1 by simpa using hb1); obtain ⟨b0, b1⟩ := box2 HX1.out; have hy1 := box_lt HX1.out; have HO1 := Lib.hid hO.iat; clear hb1 hO)
      | (go_at_call 125; refine (H3.out _ _ _ (below_box HX2.out) HO2.out).mono ?_; rintro e w3 ⟨⟨g3, rfl, hg3, hO3⟩, hb3⟩; have HX3 := Lib.hid (on_call HX2.out hb3); clear b0 b1; obtain ⟨b0, b1⟩ := box2 HX3.out; have hy3 := box_lt HX3.out; have HO3 := Lib.hid (IOwn.iat (cap := fl.length) (by rw [HTL.out]; exact hO3 : IOwn w3 _ (.slice (some ⟨g3, 0, none⟩) (tuL fl (sgL N ps) x).length fl.length) _)); have HW3 := Lib.hid hO3; clear hb3 hO3)
      | (go_at_call_of 124 (Value.slice AD fl.length dc); refine (H2.out _ (below_box HX1.out)).mono ?_; rintro e w2 ⟨rfl, hb2⟩; have HX2 := Lib.hid (on_call HX1.out hb2); clear b0 b1; obtain ⟨b0, b1⟩ := box2 HX2.out; have hy2 := box_lt HX2.out; have HO2 := Lib.hid (HO1.out.kept hb2 (Nat.le_refl _)); clear hb2)
      | (go_at_call 124; refine (H4.out _ _ _ (below_box HX3.out) HO3.out).mono ?_; rintro e w4 ⟨rfl, hb4⟩; have HX4 := Lib.hid (on_call HX3.out hb4); have HW4 := Lib.hid (HW3.out.on hb4); clear hb4))
    go_ret2
    exact ⟨g3, fl.length, by rw [HTL.out]; rfl, by omega, by rw [HTL.out]; exact own_lower HW4.out (by omega), below_box HX4.out⟩
end Go.Proofs.Ytgjogjmfpbinfaa.S2

namespace Go.Proofs.Ytgjogjmfpbinfaa.S2
open Go.RowKit P2

set_option maxHeartbeats 2000000 in
theorem stn_no1 (n : Int) (A : Option Addr) (cap : Nat) (ps : List Pp) (AD : Option Addr) (dc : Nat) (fl : List Int) (x : Int) (w : World) (h : PAt w A ps) (hm : ps.length ≤ maxLen) (hv : goodB n ps = false) :
    Calls Try.prog 30 #[nv n A ps.length cap, .slice AD fl.length dc, .int .i64 x] w (GivesI w [] false) := by
  have H := Lib.hid (fun w' (hb : Below w.heap.size w w') => sgood_v hv A cap w' (h.kept hb (Nat.le_refl _)) hm)
  clear h hv
  go_enter Try.func30, Try.ntmps30
  go_wp2_with (go_at_call 112; refine (H.out _ ((Below.refl _ _).alloc (Nat.le_refl _) _)).mono ?_; rintro e w1 ⟨rfl, hb1⟩)
  go_ret2
  exact gives_none (below_alloc_call hb1)
set_option maxHeartbeats 2000000 in
theorem stn_no2 (N : Nat) (A : Option Addr) (cap : Nat) (ps : List Pp) (AD : Option Addr) (dc : Nat) (fl : List Int) (x : Int) (w : World) (h : PAt w A ps) (hm : ps.length ≤ maxLen) (hv : goodB N ps = true) (hr : ringB N ps = false) :
    Calls Try.prog 30 #[nv N A ps.length cap, .slice AD fl.length dc, .int .i64 x] w (GivesI w [] false) := by
  have H := Lib.hid (fun w' (hb : Below w.heap.size w w') => sgood_v hv A cap w' (h.kept hb (Nat.le_refl _)) hm)
  have H2 := Lib.hid (fun w' (hb : Below w.heap.size w w') => sring_v hr A cap w' (h.kept hb (Nat.le_refl _)) (good_of hv))
  clear h hv hr
  go_enter Try.func30, Try.ntmps30
  go_wp2_with (first
    | (go_at_call 112; refine (H.out _ ((Below.refl _ _).alloc (Nat.le_refl _) _)).mono ?_; rintro e w1 ⟨rfl, hb1⟩; have HX1 := Lib.hid (show Below (w.heap.size + 1) (w.alloc (nb N A ps.length cap)) w1 by simpa using hb1); obtain ⟨b0, b1⟩ := box2 HX1.out; have hy1 := box_lt HX1.out; clear hb1)
    | (go_at_call 113; refine (H2.out _ (below_box HX1.out)).mono ?_; rintro e w2 ⟨rfl, hb2⟩; have HX2 := Lib.hid (on_call HX1.out hb2); clear hb2))
  go_ret2
  exact gives_none (below_box HX2.out)
set_option maxHeartbeats 2000000 in
theorem stn_no3 (N : Nat) (A : Option Addr) (cap : Nat) (ps : List Pp) (AD : Option Addr) (dc : Nat) (fl : List Int) (x : Int) (w : World) (h : PAt w A ps) (hm : ps.length ≤ maxLen) (hd : IAt w AD fl) (hdl : fl.length ≤ 1048576) (hv : goodB N ps = true) (hr : ringB N ps = true) (hx : floB N ps fl = false ∨ x < -8000 ∨ 8000 < x) :
    Calls Try.prog 30 #[nv N A ps.length cap, .slice AD fl.length dc, .int .i64 x] w (GivesI w [] false) := by
  obtain ⟨v2, hv2⟩ : ∃ v, amtB fl ps.length (-8000) 8000 = v := ⟨_, rfl⟩
  have H := Lib.hid (fun w' (hb : Below w.heap.size w w') => sgood_v hv A cap w' (h.kept hb (Nat.le_refl _)) hm)
  have H2 := Lib.hid (fun w' (hb : Below w.heap.size w w') => sring_v hr A cap w' (h.kept hb (Nat.le_refl _)) (good_of hv))
  have H3 := Lib.hid (fun w' (hb : Below w.heap.size w w') => sflo_v hv2 (n := N) A cap AD dc w' (hd.kept hb (Nat.le_refl _)) hdl)
  have HC := Lib.hid (fun w' => in_any x (-8000) 8000 w')
  have hfx : v2 = true → decide ((-8000 : Int) ≤ x ∧ x ≤ 8000) = false := fun e => by
    rcases hx with hx | hx
    · unfold floB at hx
      rw [hv, hv2, e] at hx
      cases hx
    · exact decide_eq_false (by omega)
  clear h hd hv hr hv2 hx
  cases v2 with
  | false =>
    clear hfx
    go_enter Try.func30, Try.ntmps30
    go_wp2_with (first
      | (go_at_call 112; refine (H.out _ ((Below.refl _ _).alloc (Nat.le_refl _) _)).mono ?_; rintro e w1 ⟨rfl, hb1⟩; have HX1 := Lib.hid (show Below (w.heap.size + 1) (w.alloc (nb N A ps.length cap)) w1 by simpa using hb1); obtain ⟨b0, b1⟩ := box2 HX1.out; have hy1 := box_lt HX1.out; clear hb1)
      | (go_at_call 113; refine (H2.out _ (below_box HX1.out)).mono ?_; rintro e w2 ⟨rfl, hb2⟩; have HX2 := Lib.hid (on_call HX1.out hb2); clear b0 b1; obtain ⟨b0, b1⟩ := box2 HX2.out; have hy2 := box_lt HX2.out; clear hb2)
      | (go_at_call 121; refine (H3.out _ (below_box HX2.out)).mono ?_; rintro e w3 ⟨rfl, hb3⟩; have HX3 := Lib.hid (on_call HX2.out hb3); clear hb3))
    go_ret2
    exact gives_none (below_box HX3.out)
  | true =>
    rw [hfx rfl] at HC
    clear hfx
    go_enter Try.func30, Try.ntmps30
    go_wp2_with (first
      | (go_at_call 112; refine (H.out _ ((Below.refl _ _).alloc (Nat.le_refl _) _)).mono ?_; rintro e w1 ⟨rfl, hb1⟩; have HX1 := Lib.hid (show Below (w.heap.size + 1) (w.alloc (nb N A ps.length cap)) w1 by simpa using hb1); obtain ⟨b0, b1⟩ := box2 HX1.out; have hy1 := box_lt HX1.out; clear hb1)
      | (go_at_call 113; refine (H2.out _ (below_box HX1.out)).mono ?_; rintro e w2 ⟨rfl, hb2⟩; have HX2 := Lib.hid (on_call HX1.out hb2); clear b0 b1; obtain ⟨b0, b1⟩ := box2 HX2.out; have hy2 := box_lt HX2.out; clear hb2)
      | (go_at_call 121; refine (H3.out _ (below_box HX2.out)).mono ?_; rintro e w3 ⟨rfl, hb3⟩; have HX3 := Lib.hid (on_call HX2.out hb3); clear b0 b1; obtain ⟨b0, b1⟩ := box2 HX3.out; clear hb3)
      | (go_at_call 122; refine (HC.out _).mono ?_; rintro e w4 ⟨rfl, hw⟩; replace hw := hw.symm; subst hw))
    go_ret2
    exact gives_none (below_box HX3.out)
set_option maxHeartbeats 4000000 in
theorem stn_yes (N : Nat) (A : Option Addr) (cap : Nat) (ps : List Pp) (AD : Option Addr) (dc : Nat) (fl : List Int) (x : Int) (w : World) (h : PAt w A ps) (hm : ps.length ≤ maxLen) (hc : ps.length ≤ cap) (hd : IAt w AD fl) (hr : ringB N ps = true) (hv : floB N ps fl = true) (hx : -8000 ≤ x ∧ x ≤ 8000) :
    Calls Try.prog 30 #[nv N A ps.length cap, .slice AD fl.length dc, .int .i64 x] w (GivesI w (if floB N ps (tuL fl (sgL N ps) x) = true then tuL fl (sgL N ps) x else []) (floB N ps (tuL fl (sgL N ps) x))) := by
  obtain ⟨hg, hfl, hrr⟩ := floB_of hv
  have hl10 := hg.2.2.1
  have hpl := (ring_full hr).1
  have hN1 := hg.1
  have hvg : goodB (N : Int) ps = true := good_mk hg
  have hv2 : amtB fl ps.length (-8000) 8000 = true := by simp [amtB, hfl, hrr]
  have H := Lib.hid (fun w' (hb : Below w.heap.size w w') => sgood_v hvg A cap w' (h.kept hb (Nat.le_refl _)) hm)
  have H2 := Lib.hid (fun w' (hb : Below w.heap.size w w') => sring_v hr A cap w' (h.kept hb (Nat.le_refl _)) hg)
  have H3 := Lib.hid (fun w' (hb : Below w.heap.size w w') => sflo_v hv2 (n := N) A cap AD dc w' (hd.kept hb (Nat.le_refl _)) (by omega))
  have HC := Lib.hid (fun w' => in_any x (-8000) 8000 w')
  rw [show decide ((-8000 : Int) ≤ x ∧ x ≤ 8000) = true from decide_eq_true hx] at HC
  have H5 := Lib.hid (fun w' (hb : Below w.heap.size w w') => slp_any N A cap ps w' (h.kept hb (Nat.le_refl _)) hc hg hr)
  have H6 := Lib.hid (show ∀ g c w', Below w.heap.size w w' → IAt w' (some ⟨g, 0, none⟩) (sgL N ps) → Calls Try.prog 123 #[.slice (some ⟨g, 0, none⟩) (sgL N ps).length c, .slice AD fl.length dc, .int .i64 x] w' (GivesL w' (tuL fl (sgL N ps) x)) from fun g c w' hb hi => stu_any (some ⟨g, 0, none⟩) c (sgL N ps) AD dc fl x w' hi (hd.kept hb (Nat.le_refl _)) (by rw [sgL_len]; omega) (by omega) (by omega) (by omega) (fun i hi => flo_b hv hi) (fun i _ => sgL_sg N ps i))
  obtain ⟨u, hu⟩ : ∃ u, floB N ps (tuL fl (sgL N ps) x) = u := ⟨_, rfl⟩
  have hu2 : amtB (tuL fl (sgL N ps) x) ps.length (-8000) 8000 = u := by unfold floB at hu; rw [hvg, Bool.true_and] at hu; exact hu
  have H7 := Lib.hid (fun g c w' (hi : IAt w' (some ⟨g, 0, none⟩) (tuL fl (sgL N ps) x)) => sflo_v hu2 (n := N) A cap (some ⟨g, 0, none⟩) c w' hi (by rw [tuL_len]; omega))
  rw [hu]
  clear h hd hv hg hrr hfl hu hx hu2 hv2 hvg hr hpl
  cases u with
  | false =>
    go_enter Try.func30, Try.ntmps30
    go_wp2_with (first
      | (go_at_call 112; refine (H.out _ ((Below.refl _ _).alloc (Nat.le_refl _) _)).mono ?_; rintro e w1 ⟨rfl, hb1⟩; have HX1 := Lib.hid (show Below (w.heap.size + 1) (w.alloc (nb N A ps.length cap)) w1 by simpa using hb1); obtain ⟨b0, b1⟩ := box2 HX1.out; have hy1 := box_lt HX1.out; clear hb1)
      | (go_at_call 113; refine (H2.out _ (below_box HX1.out)).mono ?_; rintro e w2 ⟨rfl, hb2⟩; have HX2 := Lib.hid (on_call HX1.out hb2); clear b0 b1; obtain ⟨b0, b1⟩ := box2 HX2.out; have hy2 := box_lt HX2.out; clear hb2)
      | (go_at_call_of 121 (Value.slice AD fl.length dc); refine (H3.out _ (below_box HX2.out)).mono ?_; rintro e w3 ⟨rfl, hb3⟩; have HX3 := Lib.hid (on_call HX2.out hb3); clear b0 b1; obtain ⟨b0, b1⟩ := box2 HX3.out; have hy3 := box_lt HX3.out; clear hb3)
      | (go_at_call 122; refine (HC.out _).mono ?_; rintro e w4 ⟨rfl, hw⟩; replace hw := hw.symm; subst hw)
      | (go_at_call 118; refine (H5.out _ (below_box HX3.out)).mono ?_; rintro e w5 ⟨g5, c5, rfl, hg5, hO5, hb5⟩; have HX5 := Lib.hid (on_call HX3.out hb5); clear b0 b1; obtain ⟨b0, b1⟩ := box2 HX5.out; have hy5 := box_lt HX5.out; have HI5 := Lib.hid hO5.iat; clear hb5 hO5)
      | (go_at_call 123; refine (H6.out _ _ _ (below_box HX5.out) HI5.out).mono ?_; rintro e w6 ⟨g6, c6, rfl, hg6, hO6, hb6⟩; have HX6 := Lib.hid (on_call HX5.out hb6); clear b0 b1; obtain ⟨b0, b1⟩ := box2 HX6.out; have hy6 := box_lt HX6.out; have HI6 := Lib.hid hO6.iat; clear hb6 hO6)
      | (go_at_call 121; refine (H7.out _ _ _ HI6.out).mono ?_; rintro e w7 ⟨rfl, hb7⟩; have HX7 := Lib.hid (on_call HX6.out hb7); clear hb7))
    go_ret2
    exact gives_none (below_box HX7.out)
  | true =>
    go_enter Try.func30, Try.ntmps30
    go_wp2_with (first
      | (go_at_call 112; refine (H.out _ ((Below.refl _ _).alloc (Nat.le_refl _) _)).mono ?_; rintro e w1 ⟨rfl, hb1⟩; have HX1 := Lib.hid (show Below (w.heap.size + 1) (w.alloc (nb N A ps.length cap)) w1 by simpa using hb1); obtain ⟨b0, b1⟩ := box2 HX1.out; have hy1 := box_lt HX1.out; clear hb1)
      | (go_at_call 113; refine (H2.out _ (below_box HX1.out)).mono ?_; rintro e w2 ⟨rfl, hb2⟩; have HX2 := Lib.hid (on_call HX1.out hb2); clear b0 b1; obtain ⟨b0, b1⟩ := box2 HX2.out; have hy2 := box_lt HX2.out; clear hb2)
      | (go_at_call_of 121 (Value.slice AD fl.length dc); refine (H3.out _ (below_box HX2.out)).mono ?_; rintro e w3 ⟨rfl, hb3⟩; have HX3 := Lib.hid (on_call HX2.out hb3); clear b0 b1; obtain ⟨b0, b1⟩ := box2 HX3.out; have hy3 := box_lt HX3.out; clear hb3)
      | (go_at_call 122; refine (HC.out _).mono ?_; rintro e w4 ⟨rfl, hw⟩; replace hw := hw.symm; subst hw)
      | (go_at_call 118; refine (H5.out _ (below_box HX3.out)).mono ?_; rintro e w5 ⟨g5, c5, rfl, hg5, hO5, hb5⟩; have HX5 := Lib.hid (on_call HX3.out hb5); clear b0 b1; obtain ⟨b0, b1⟩ := box2 HX5.out; have hy5 := box_lt HX5.out; have HI5 := Lib.hid hO5.iat; clear hb5 hO5)
      | (go_at_call 123; refine (H6.out _ _ _ (below_box HX5.out) HI5.out).mono ?_; rintro e w6 ⟨g6, c6, rfl, hg6, hO6, hb6⟩; have HX6 := Lib.hid (on_call HX5.out hb6); clear b0 b1; obtain ⟨b0, b1⟩ := box2 HX6.out; have hy6 := box_lt HX6.out; have HI6 := Lib.hid hO6.iat; have HW6 := Lib.hid hO6; clear hb6 hO6)
      | (go_at_call 121; refine (H7.out _ _ _ HI6.out).mono ?_; rintro e w7 ⟨rfl, hb7⟩; have HX7 := Lib.hid (on_call HX6.out hb7); have HW7 := Lib.hid (HW6.out.on hb7); clear hb7))
    go_ret2
    exact ⟨g6, c6, rfl, by omega, own_lower HW7.out (by omega), below_box HX7.out⟩
end Go.Proofs.Ytgjogjmfpbinfaa.S2
