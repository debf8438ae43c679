/- The smallest start and the steady level, what both sides answer: contracts. Conditions: each theorem's own premises. -/
import Derived.Test.YtikppgbipdflbaaDoorTkFm
namespace Go.Proofs.YtikppgbipdflbaaDoor.S11
open Go.RowKit P11

/-- SteadyLevel of the program. -/
theorem ist_any (L a b : Int) (A : Option Addr) (cap : Nat) (xs : List Int) (AU : Option Addr) (cc : Nat) (ys : List Int) (w : World) (hx : IAt w A xs) (hxl : xs.length ≤ 1048576) (hy : IAt w AU ys) (hyl : ys.length ≤ 1048576) :
    Calls Tryd.prog 29 #[tv L a b, .slice A xs.length cap, .slice AU ys.length cc] w (LowPost (if dayB L a b xs ys then lowI (stdB a b xs ys) a b else none) w) := by
  cases ht : tkB L a b with
  | false =>
    have h : dayB L a b xs ys = false := by unfold dayB; rw [ht, Bool.false_and]
    rw [h]
    exact st_bad L a b A cap xs AU cc ys w ht
  | true =>
    obtain ⟨a0, a1, a2, a3⟩ := tkB_iff.1 ht
    have hl : ∀ l, a ≤ l → l ≤ b → tkB l a b = true := fun l h1 h2 => tkB_iff.2 (by omega)
    cases h : dayB L a b xs ys with
    | false =>
      have hno : ∀ l, a ≤ l → l ≤ b → dayB l a b xs ys = false := fun l h1 h2 => by
        unfold dayB at h ⊢
        rw [ht, Bool.true_and] at h
        rw [h, Bool.and_false]
      have H := st_ok L a b A cap xs AU cc ys w ht (fun _ => false) (fun l w' h1 h2 hb hc1 hc2 => stc_no l a b A cap xs AU cc ys (w.heap.size + 1) (w.heap.size + 2) w' (hx.kept hb (Nat.le_refl _)) hxl (hy.kept hb (Nat.le_refl _)) hyl (hno l h1 h2) hc1 hc2)
      rw [low_none (p := fun _ => false) (fun _ _ _ => rfl)] at H
      exact H
    | true =>
      have hd := dayB_iff.1 h
      exact st_ok L a b A cap xs AU cc ys w ht (stdB a b xs ys) (fun l w' h1 h2 hb hc1 hc2 => stc_any l a b A cap xs AU cc ys (w.heap.size + 1) (w.heap.size + 2) w' (hx.kept hb (Nat.le_refl _)) (hy.kept hb (Nat.le_refl _)) (hd.other (hl l h1 h2)) hc1 hc2)
theorem sst_any (L a b : Int) (A : Option Addr) (cap : Nat) (xs : List Int) (AU : Option Addr) (cc : Nat) (ys : List Int) (w : World) (hx : IAt w A xs) (hxl : xs.length ≤ 1048576) (hy : IAt w AU ys) (hyl : ys.length ≤ 1048576) :
    Calls Tryd.prog 30 #[tv L a b, .slice A xs.length cap, .slice AU ys.length cc] w (LowPost (if dayB L a b xs ys then lowI (stdB a b xs ys) a b else none) w) := by
  cases h : dayB L a b xs ys with
  | false => exact sst_no L a b A cap xs AU cc ys w hx hxl hy hyl h
  | true => exact sst_yes L a b A cap xs AU cc ys w hx hxl hy hyl (dayB_iff.1 h)
/-- The smallest start; the steady level. -/
noncomputable def lsO (L a b : Int) (xs ys : List Int) : Option Int := if dayB L a b xs ys then lowI (okSt a b xs ys) a b else none
noncomputable def stO (L a b : Int) (xs ys : List Int) : Option Int := if dayB L a b xs ys then lowI (stdB a b xs ys) a b else none
theorem ils_none (L a b : Int) (A : Option Addr) (cap : Nat) (xs : List Int) (AU : Option Addr) (cc : Nat) (ys : List Int) (ea : Addr) (w : World) (hE : Er w (noV ea)) (hx : IAt w A xs) (hxl : xs.length ≤ 1048576) (hy : IAt w AU ys) (hyl : ys.length ≤ 1048576) (h : lsO L a b xs ys = none) :
    Calls Tryd.prog 10 #[tv L a b, .slice A xs.length cap, .slice AU ys.length cc] w fun e w' => e = .returned (.tuple #[.int .i64 0, .bool false]) ∧ Below w.heap.size w w' := by
  have H := ils_any L a b A cap xs AU cc ys ea w hE hx hxl hy hyl
  unfold lsO at h
  rw [h] at H
  exact H
theorem ils_some (L a b : Int) (A : Option Addr) (cap : Nat) (xs : List Int) (AU : Option Addr) (cc : Nat) (ys : List Int) (ea : Addr) (w : World) (l : Int) (hE : Er w (noV ea)) (hx : IAt w A xs) (hxl : xs.length ≤ 1048576) (hy : IAt w AU ys) (hyl : ys.length ≤ 1048576) (h : lsO L a b xs ys = some l) :
    Calls Tryd.prog 10 #[tv L a b, .slice A xs.length cap, .slice AU ys.length cc] w fun e w' => e = .returned (.tuple #[.int .i64 l, .bool true]) ∧ Below w.heap.size w w' := by
  have H := ils_any L a b A cap xs AU cc ys ea w hE hx hxl hy hyl
  unfold lsO at h
  rw [h] at H
  exact H
theorem sls_none (L a b : Int) (A : Option Addr) (cap : Nat) (xs : List Int) (AU : Option Addr) (cc : Nat) (ys : List Int) (w : World) (hx : IAt w A xs) (hxl : xs.length ≤ 1048576) (hy : IAt w AU ys) (hyl : ys.length ≤ 1048576) (h : lsO L a b xs ys = none) :
    Calls Tryd.prog 7 #[tv L a b, .slice A xs.length cap, .slice AU ys.length cc] w fun e w' => e = .returned (.tuple #[.int .i64 0, .bool false]) ∧ Below w.heap.size w w' := by
  have H := sls_any L a b A cap xs AU cc ys w hx hxl hy hyl
  unfold lsO at h
  rw [h] at H
  exact H
theorem sls_some (L a b : Int) (A : Option Addr) (cap : Nat) (xs : List Int) (AU : Option Addr) (cc : Nat) (ys : List Int) (w : World) (l : Int) (hx : IAt w A xs) (hxl : xs.length ≤ 1048576) (hy : IAt w AU ys) (hyl : ys.length ≤ 1048576) (h : lsO L a b xs ys = some l) :
    Calls Tryd.prog 7 #[tv L a b, .slice A xs.length cap, .slice AU ys.length cc] w fun e w' => e = .returned (.tuple #[.int .i64 l, .bool true]) ∧ Below w.heap.size w w' := by
  have H := sls_any L a b A cap xs AU cc ys w hx hxl hy hyl
  unfold lsO at h
  rw [h] at H
  exact H
theorem ist_none (L a b : Int) (A : Option Addr) (cap : Nat) (xs : List Int) (AU : Option Addr) (cc : Nat) (ys : List Int) (w : World) (hx : IAt w A xs) (hxl : xs.length ≤ 1048576) (hy : IAt w AU ys) (hyl : ys.length ≤ 1048576) (h : stO L a b xs ys = none) :
    Calls Tryd.prog 29 #[tv L a b, .slice A xs.length cap, .slice AU ys.length cc] w fun e w' => e = .returned (.tuple #[.int .i64 0, .bool false]) ∧ Below w.heap.size w w' := by
  have H := ist_any L a b A cap xs AU cc ys w hx hxl hy hyl
  unfold stO at h
  rw [h] at H
  exact H
theorem ist_some (L a b : Int) (A : Option Addr) (cap : Nat) (xs : List Int) (AU : Option Addr) (cc : Nat) (ys : List Int) (w : World) (l : Int) (hx : IAt w A xs) (hxl : xs.length ≤ 1048576) (hy : IAt w AU ys) (hyl : ys.length ≤ 1048576) (h : stO L a b xs ys = some l) :
    Calls Tryd.prog 29 #[tv L a b, .slice A xs.length cap, .slice AU ys.length cc] w fun e w' => e = .returned (.tuple #[.int .i64 l, .bool true]) ∧ Below w.heap.size w w' := by
  have H := ist_any L a b A cap xs AU cc ys w hx hxl hy hyl
  unfold stO at h
  rw [h] at H
  exact H
theorem sst_none (L a b : Int) (A : Option Addr) (cap : Nat) (xs : List Int) (AU : Option Addr) (cc : Nat) (ys : List Int) (w : World) (hx : IAt w A xs) (hxl : xs.length ≤ 1048576) (hy : IAt w AU ys) (hyl : ys.length ≤ 1048576) (h : stO L a b xs ys = none) :
    Calls Tryd.prog 30 #[tv L a b, .slice A xs.length cap, .slice AU ys.length cc] w fun e w' => e = .returned (.tuple #[.int .i64 0, .bool false]) ∧ Below w.heap.size w w' := by
  have H := sst_any L a b A cap xs AU cc ys w hx hxl hy hyl
  unfold stO at h
  rw [h] at H
  exact H
theorem sst_some (L a b : Int) (A : Option Addr) (cap : Nat) (xs : List Int) (AU : Option Addr) (cc : Nat) (ys : List Int) (w : World) (l : Int) (hx : IAt w A xs) (hxl : xs.length ≤ 1048576) (hy : IAt w AU ys) (hyl : ys.length ≤ 1048576) (h : stO L a b xs ys = some l) :
    Calls Tryd.prog 30 #[tv L a b, .slice A xs.length cap, .slice AU ys.length cc] w fun e w' => e = .returned (.tuple #[.int .i64 l, .bool true]) ∧ Below w.heap.size w w' := by
  have H := sst_any L a b A cap xs AU cc ys w hx hxl hy hyl
  unfold stO at h
  rw [h] at H
  exact H

theorem lsO_is {L a b l : Int} {xs ys : List Int} (h : lsO L a b xs ys = some l) : Day L a b xs ys ∧ Day l a b xs ys ∧ a ≤ l ∧ misS a b xs ys l = 0 ∧ (a < l → Day (l - 1) a b xs ys ∧ misS a b xs ys (l - 1) ≠ 0) := by
  unfold lsO at h
  cases hd : dayB L a b xs ys with
  | false => rw [hd] at h; cases h
  | true =>
    rw [hd, if_pos rfl] at h
    have hD := dayB_iff.1 hd
    obtain ⟨h1, h2, h3, h4⟩ := low_is h
    have ht := tkB_iff.1 hD.tk
    refine ⟨hD, hD.other (tkB_iff.2 (by omega)), h1, of_decide_eq_true h3, fun hl => ⟨hD.other (tkB_iff.2 (by omega)), of_decide_eq_false (h4 (l - 1) (by omega) (by omega))⟩⟩
theorem stO_is {L a b l : Int} {xs ys : List Int} (h : stO L a b xs ys = some l) : Day L a b xs ys ∧ Day l a b xs ys ∧ P11.rep a b xs ys l 7 = l := by
  unfold stO at h
  cases hd : dayB L a b xs ys with
  | false => rw [hd] at h; cases h
  | true =>
    rw [hd, if_pos rfl] at h
    have hD := dayB_iff.1 hd
    obtain ⟨h1, h2, h3, h4⟩ := low_is h
    have ht := tkB_iff.1 hD.tk
    exact ⟨hD, hD.other (tkB_iff.2 (by omega)), rep_steady (of_decide_eq_true h3) 7⟩
end Go.Proofs.YtikppgbipdflbaaDoor.S11
