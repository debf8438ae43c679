/- Pumps in a box, one and two: contracts in the walk's form. Conditions: each theorem's own premises. -/
import Derived.Test.YtpldbakllegheabCvPump3
namespace Go.Proofs.Ytpldbakllegheab.S7
open Go.RowKit P7

theorem sdr_first {w : World} {g b : Nat} {ls : List (List Cp)} (h : SDr w g b ls) (h1 : 1 ≤ ls.length) : ∃ B c, w.cell? ⟨b, 0, none⟩ = some (.slice (some ⟨B, 0, none⟩) (rw_ ls 0).length c) ∧ CAt w (some ⟨B, 0, none⟩) (rw_ ls 0) ∧ b < w.heap.size ∧ (rw_ ls 0).length ≤ min c 1048576 ∧ (rw_ ls 0).length ≤ c ∧ c ≤ maxLen ∧ (rw_ ls 0).length ≤ 7 := by
  obtain ⟨B, c, _, _, hc, hC, ⟨_, h7⟩, h8, h9⟩ := h.2.2 0 (by omega)
  exact ⟨B, c, hc, hC, h.1, by omega, h8, h9, h7⟩
theorem par_in {ls : List (List Cp)} {z x y : Int} {k : Bool} (hp : parA ls z = (x, y, k)) (A : Option Addr) (cap : Nat) (wx W : World) (h : SCp W A ls) (hm : ls.length ≤ 1048576) (hb : Below wx.heap.size wx W) :
    Calls Try.prog 16 #[.slice A ls.length cap, .int .i64 z] W fun e w' => e = .returned (.tuple #[.int .i64 x, .int .i64 y, .bool k]) ∧ Below wx.heap.size wx w' := by
  have := par_all A cap ls z W h hm
  rw [hp] at this
  exact this.mono fun e w' ⟨he, hb2⟩ => ⟨he, hb.trans (hb2.mono hb.size)⟩
theorem ser_in {ls : List (List Cp)} {z x y : Int} {k : Bool} (hp : sumA (fun i => hA (rw_ ls i) z) ls.length = (x, y, k)) (A : Option Addr) (cap : Nat) (wx W : World) (h : SCp W A ls) (hm : ls.length ≤ 1048576) (hb : Below wx.heap.size wx W) :
    Calls Try.prog 19 #[.slice A ls.length cap, .int .i64 z] W fun e w' => e = .returned (.tuple #[.int .i64 x, .int .i64 y, .bool k]) ∧ Below wx.heap.size wx w' := by
  have := series_any A cap ls z W h hm
  unfold SPost at this
  rw [hp] at this
  exact this.mono fun e w' ⟨he, hb2⟩ => ⟨he, hb.trans (hb2.mono hb.size)⟩
theorem hd_in {l : List Cp} {z x y : Int} {k : Bool} (hp : hA l z = (x, y, k)) (A : Option Addr) (cap : Nat) (w : World) (h : CAt w A l) (hm : l.length ≤ 1048576) (h1 : l.length ≤ cap) (h2 : cap ≤ maxLen) :
    Calls Try.prog 14 #[.slice A l.length cap, .int .i64 z] w fun e w' => e = .returned (.tuple #[.int .i64 x, .int .i64 y, .bool k]) ∧ Below w.heap.size w w' := by
  have := head_cap A cap l z w h hm h1 h2
  unfold HPost at this
  rw [hp] at this
  exact this
abbrev bx1 (B c : Nat) (n : Nat) : Obj := .cells #[.slice (some ⟨B, 0, none⟩) n c] 24
abbrev bx2 (B c : Nat) (n : Nat) : Obj := .cells #[.slice (some ⟨B, 0, none⟩) n c, .slice (some ⟨B, 0, none⟩) n c] 24
theorem par_one {l : List Cp} {z x y : Int} {k : Bool} (hp : parA [l] z = (x, y, k)) (B c : Nat) (w : World) (h : CAt w (some ⟨B, 0, none⟩) l) (h1 : l.length ≤ min c 1048576) (h2 : c ≤ maxLen) :
    Calls Try.prog 16 #[.slice (some ⟨w.heap.size, 0, none⟩) 1 1, .int .i64 z] (w.alloc (bx1 B c l.length)) fun e w' => e = .returned (.tuple #[.int .i64 x, .int .i64 y, .bool k]) ∧ Below w.heap.size w w' :=
  par_in hp (some ⟨w.heap.size, 0, none⟩) 1 w _ (box_one h h1 h2) (by simp) (alloc_below _ _)
theorem par_two {l : List Cp} {z x y : Int} {k : Bool} (hp : parA [l, l] z = (x, y, k)) (B c : Nat) (w : World) (h : CAt w (some ⟨B, 0, none⟩) l) (h1 : l.length ≤ min c 1048576) (h2 : c ≤ maxLen) :
    Calls Try.prog 16 #[.slice (some ⟨w.heap.size, 0, none⟩) 2 2, .int .i64 z] (w.alloc (bx2 B c l.length)).drew fun e w' => e = .returned (.tuple #[.int .i64 x, .int .i64 y, .bool k]) ∧ Below w.heap.size w w' :=
  par_in hp (some ⟨w.heap.size, 0, none⟩) 2 w _ ((box_two h h1 h2).kept ((Below.refl _ _).drew) (Nat.le_refl _)) (by simp) ((alloc_below _ _).drew)
theorem ser_two {l : List Cp} {z x y : Int} {k : Bool} (hp : sumA (fun i => hA (rw_ [l, l] i) z) 2 = (x, y, k)) (B c : Nat) (w : World) (h : CAt w (some ⟨B, 0, none⟩) l) (h1 : l.length ≤ min c 1048576) (h2 : c ≤ maxLen) :
    Calls Try.prog 19 #[.slice (some ⟨w.heap.size, 0, none⟩) 2 2, .int .i64 z] (w.alloc (bx2 B c l.length)).drew fun e w' => e = .returned (.tuple #[.int .i64 x, .int .i64 y, .bool k]) ∧ Below w.heap.size w w' :=
  ser_in (ls := [l, l]) hp (some ⟨w.heap.size, 0, none⟩) 2 w _ ((box_two h h1 h2).kept ((Below.refl _ _).drew) (Nat.le_refl _)) (by simp) ((alloc_below _ _).drew)
end Go.Proofs.Ytpldbakllegheab.S7
