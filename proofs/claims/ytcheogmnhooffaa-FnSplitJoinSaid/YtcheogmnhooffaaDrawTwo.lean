/- How the laws draw their arguments: among texts: contracts. Conditions: each theorem's own premises. -/
import Derived.Test.YtcheogmnhooffaaDrawOne
namespace Go.Proofs.Ytcheogmnhooffaa.S1
open Go.RowKit

/-- Texts lie in a row of their own. -/
def Tx (b : Nat) (ss : List ByteArray) (w : World) : Prop := ∀ j, j < ss.length → w.cell? ⟨b, j, none⟩ = some (.string (ss.getD j ByteArray.empty))
theorem tx_new (w : World) (ss : List ByteArray) (t : TypeId) : Tx w.heap.size ss (w.alloc (.cells (ss.map Value.string).toArray t)) := fun j hj => by
  rw [World.cell?_alloc_at _ _ _ _ rfl]
  simp [List.getD, hj]
theorem tx_lt {b : Nat} {ss : List ByteArray} {w : World} (h : Tx b ss w) (h0 : 0 < ss.length) : b < w.heap.size := by
  have h00 := h 0 h0
  refine Decidable.byContradiction fun hlt => ?_
  unfold World.cell? at h00
  rw [Array.getElem?_eq_none (by simpa using hlt)] at h00
  cases h00

/-- of: one of the texts. -/
theorem of_any (B g : Nat) (a : Option Addr) (n cap K b N c : Nat) (ss : List ByteArray) (w : World) (hN : N = ss.length) (hK : K ≤ 900000) (h0 : 1 ≤ ss.length) (h1 : ss.length ≤ 1000) (h : St B g a n cap K w) (ht : Tx b ss w) (hne : b ≠ g) :
    Calls Try.prog 26 #[.pointer (some ⟨g, 0, none⟩), .slice (some ⟨b, 0, none⟩) N c] w fun e w' => (∃ j, j < ss.length ∧ e = .returned (.string (ss.getD j ByteArray.empty))) ∧ St B g a n cap (K + 2) w' ∧ w.grownBy w' (some g) := by
  subst hN
  have HS := Lib.hid h
  have HT := Lib.hid ht
  have hb := tx_lt ht h0
  clear h ht
  go_enter Try.func26, Try.ntmps26
  go_wp2_with (go_at_call 29; refine (pick_any B g a n cap K _ _ hK (by omega) (by omega) HS.out).mono ?_; rintro e w1 ⟨r, rfl, hr0, hr1, hs1, hg1⟩; refine Hid.out ?_)
  obtain ⟨j, rfl⟩ : ∃ j : Nat, r = (j : Int) := ⟨r.toNat, by omega⟩
  have hj : j < ss.length := by omega
  have hc : w1.cell? ⟨b, j, none⟩ = some (.string (ss.getD j ByteArray.empty)) := hg1.cell (HT.out j hj) (by simp; omega)
  have HS1 := Lib.hid hs1
  have HG1 := Lib.hid hg1
  clear hs1 hg1 HT
  generalize hs : ss.getD j ByteArray.empty = s at hc
  have HSS := Lib.hid hs
  clear hs
  refine Lib.hid ?_
  go_wp2_with fail
  go_ret
  exact ⟨⟨j, hj, by rw [HSS.out]; rfl⟩, HS1.out, HG1.out⟩

def anyTexts : List ByteArray := [⟨#[]⟩, ⟨#[97]⟩, ⟨#[97, 44, 98]⟩, ⟨#[115, 111, 109, 101, 32, 119, 111, 114, 100, 115]⟩, ⟨#[120, 35, 121]⟩, ⟨#[45, 49, 50]⟩, ⟨#[0, 255]⟩, ⟨#[44, 44]⟩, ⟨#[48]⟩]
theorem anyTexts_size : ∀ j, j < 9 → (anyTexts.getD j ByteArray.empty).size ≤ 100 := by decide
/-- any1: a short text. -/
theorem any_any (B g : Nat) (a : Option Addr) (n cap K : Nat) (w : World) (hK : K ≤ 900000) (h : St B g a n cap K w) :
    Calls Try.prog 25 #[.pointer (some ⟨g, 0, none⟩)] w fun e w' => (∃ s : ByteArray, e = .returned (.string s) ∧ s.size ≤ 100) ∧ St B g a n cap (K + 2) w' ∧ w.grownBy w' (some g) := by
  have HS := Lib.hid h
  have hg : g < w.heap.size := by obtain ⟨k, sd, hk, hg⟩ := h.cur; exact (Array.getElem?_eq_some_iff.1 hg).1
  clear h
  go_enter Try.func25, Try.ntmps25
  go_wp2_with fail
  refine (of_any B g a n cap K w.heap.size 9 9 anyTexts _ rfl hK (by decide) (by decide) (HS.out.other ((Below.refl _ _).alloc (Nat.le_refl _) _)) (tx_new w anyTexts 9) (by omega)).mono ?_
  rintro e w1 ⟨⟨j, hj, rfl⟩, hs1, hg1⟩
  have hsz := Lib.hid (anyTexts_size j hj)
  generalize anyTexts.getD j ByteArray.empty = s at *
  have HS1 := Lib.hid hs1
  have HG1 := Lib.hid hg1
  clear hs1 hg1
  go_wp2_with fail
  go_ret
  exact ⟨⟨s, rfl, hsz.out⟩, HS1.out, grown_trans (World.grownBy_alloc w _ _) HG1.out⟩
end Go.Proofs.Ytcheogmnhooffaa.S1
