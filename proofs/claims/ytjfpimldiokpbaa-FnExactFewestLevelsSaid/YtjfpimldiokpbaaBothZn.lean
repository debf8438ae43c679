/- The laws on zones: the program's answer is its model's: contracts. Conditions: each theorem's own premises. -/
import Derived.Test.YtjfpimldiokpbaaZnBs
import Derived.Test.YtjfpimldiokpbaaZnZo
import Derived.Test.YtjfpimldiokpbaaWalkZnv
import Derived.Test.YtjfpimldiokpbaaWalkZnr
import Derived.Test.YtjfpimldiokpbaaWalkZns
import Derived.Test.YtjfpimldiokpbaaWalkZnl
import Derived.Test.YtjfpimldiokpbaaWalkZnf
import Derived.Test.YtjfpimldiokpbaaWalkZnz
import Derived.Test.YtjfpimldiokpbaaWalkZnp
import Derived.Test.YtjfpimldiokpbaaWalkZnb
import Derived.Test.YtjfpimldiokpbaaWalkZnm
namespace Go.Proofs.Ytjfpimldiokpbaa.S12
open Go.RowKit P12

theorem law_znv (a b : Int) (w : World) : Calls Try.prog 3 #[rv a b] w fun e w' => e = .returned (.bool true) ∧ Below w.heap.size w w' :=
  walkIsValidRule a b w (rlB a b) (fun w => svalid_any a b w) (fun w => rule_any a b w)
theorem law_znr (x a b h : Int) (w : World) : Calls Try.prog 10 #[.int .i64 x, rv a b, .int .i64 h] w fun e w' => e = .returned (.bool true) ∧ Below w.heap.size w w' :=
  walkReducerFor a b x h w _ _ (fun w => srd_any x a b h w) (fun w => rd_any x a b h w)
theorem law_zns (A : Option Addr) (cap : Nat) (l : List Int) (a b h : Int) (w : World) (hI : IAt w A l) (hm : l.length ≤ maxLen) :
    Calls Try.prog 4 #[.slice A l.length cap, rv a b, .int .i64 h] w fun e w' => e = .returned (.bool true) ∧ Below w.heap.size w w' := by
  cases hv : sqB l a b h with
  | false => exact walkSuitedPlaces a b A cap l h w hI hm [] (by simp) false (fun A c w h1 h2 => (ssp_no A c l a b h w h1 h2 hv).mono fun _ _ x => x.any) (fun A c w h1 h2 => sp_no A c l a b h w h1 h2 hv)
  | true =>
    unfold sqB at hv
    rw [Bool.and_eq_true] at hv
    have hq := askB_iff.1 hv.1
    exact walkSuitedPlaces a b A cap l h w hI hm (suL l a b h) (by have := suF_len l a b h l.length; have := hq.n; unfold suL; omega) true (fun A c w h1 h2 => (ssp_yes A c l a b h w h1 h2 hq hv.2).mono fun _ _ x => x.any) (fun A c w h1 h2 => sp_yes A c l a b h w h1 h2 hq hv.2)
theorem law_znl (A : Option Addr) (cap : Nat) (l : List Int) (a b : Int) (w : World) (hI : IAt w A l) (hm : l.length ≤ maxLen) :
    Calls Try.prog 5 #[.slice A l.length cap, rv a b] w fun e w' => e = .returned (.bool true) ∧ Below w.heap.size w w' := by
  by_cases hv : askB l a b = true ∧ 0 < l.length
  · have hq := askB_iff.1 hv.1
    exact walkSuitingLevels a b A cap l w hI hm _ _ _ (fun A c w h1 h2 => ssg_yes A c l a b w h1 h2 hq hv.2) (fun A c w h1 h2 => sg_yes A c l a b w h1 h2 hq hv.2)
  · have hn : askB l a b = false ∨ l.length = 0 := by
      cases h : askB l a b with
      | false => exact .inl rfl
      | true => exact .inr (by
          apply Classical.byContradiction
          intro hc
          exact hv ⟨h, by omega⟩)
    exact walkSuitingLevels a b A cap l w hI hm _ _ _ (fun A c w h1 h2 => ssg_no A c l a b w h1 h2 hn) (fun A c w h1 h2 => sg_no A c l a b w h1 h2 hn)
theorem law_znf (A : Option Addr) (cap : Nat) (l : List Int) (a b : Int) (w : World) (hI : IAt w A l) (hm : l.length ≤ maxLen) :
    Calls Try.prog 6 #[.slice A l.length cap, rv a b] w fun e w' => e = .returned (.bool true) ∧ Below w.heap.size w w' := by
  cases hv : askB l a b with
  | false => exact walkFewestLevels a b A cap l w hI hm [] (by simp) false (fun A c w h1 h2 => (sfw_no A c l a b w h1 h2 hv).mono fun _ _ x => x.any) (fun A c w h1 h2 => fw_no A c l a b w h1 h2 hv)
  | true =>
    have hq := askB_iff.1 hv
    exact walkFewestLevels a b A cap l w hI hm (fewL l a b) (by have := few_len (l := l) hq.ab; have := hq.n; omega) true (fun A c w h1 h2 => (sfw_yes A c l a b w h1 h2 hq).mono fun _ _ x => x.any) (fun A c w h1 h2 => fw_yes A c l a b w h1 h2 hq)
theorem law_znz (A : Option Addr) (cap : Nat) (l : List Int) (a b : Int) (w : World) (hI : IAt w A l) (hm : l.length ≤ maxLen) :
    Calls Try.prog 7 #[.slice A l.length cap, rv a b] w fun e w' => e = .returned (.bool true) ∧ Below w.heap.size w w' := by
  cases hv : askB l a b with
  | false => exact walkZoneOf a b A cap l w hI hm [] (by simp) false (fun A c w h1 h2 => szo_no A c l a b w h1 h2 hv) (fun A c w h1 h2 => zo_no A c l a b w h1 h2 hv)
  | true =>
    have hq := askB_iff.1 hv
    exact walkZoneOf a b A cap l w hI hm (znL l a b) (by unfold znL; rw [znK_len]; have := hq.n; omega) true (fun A c w h1 h2 => szo_yes A c l a b w h1 h2 hq) (fun A c w h1 h2 => zo_yes A c l a b w h1 h2 hq)
theorem law_znp (A : Option Addr) (cap : Nat) (l : List Int) (h : Int) (w : World) (hI : IAt w A l) (hm : l.length ≤ maxLen) :
    Calls Try.prog 8 #[.slice A l.length cap, .int .i64 h] w fun e w' => e = .returned (.bool true) ∧ Below w.heap.size w w' := by
  cases hp : plB l with
  | false => exact walkPressuresAt A cap l h w hI hm [] (by simp) false (fun A c w h1 h2 => spr_no A c l h w h1 h2 (.inl hp)) (fun A c w h1 h2 => pr_no A c l h w h1 h2 (by unfold prB; rw [hp]; rfl))
  | true =>
    cases hh : lvB h with
    | false => exact walkPressuresAt A cap l h w hI hm [] (by simp) false (fun A c w h1 h2 => spr_no A c l h w h1 h2 (.inr hh)) (fun A c w h1 h2 => pr_no A c l h w h1 h2 (by unfold prB; rw [hh, Bool.and_false]))
    | true =>
      have hq := plB_iff.1 hp
      exact walkPressuresAt A cap l h w hI hm (prK l h l.length) (by rw [prK_len]; have := hq.n; omega) true (fun A c w h1 h2 => spr_yes A c l h w h1 h2 hq hh) (fun A c w h1 h2 => pr_yes A c l h w h1 h2 hq hh)
theorem law_znb (A : Option Addr) (cap : Nat) (l : List Int) (a b : Int) (w : World) (hI : IAt w A l) (hm : l.length ≤ maxLen) :
    Calls Try.prog 9 #[.slice A l.length cap, rv a b] w fun e w' => e = .returned (.bool true) ∧ Below w.heap.size w w' := by
  cases hv : askB l a b with
  | false => exact walkBestLevel a b A cap l w hI hm _ _ _ (fun A c w h1 h2 => sbs_no A c l a b w h1 h2 hv) (fun A c w h1 h2 => bs_no A c l a b w h1 h2 hv)
  | true =>
    have hq := askB_iff.1 hv
    exact walkBestLevel a b A cap l w hI hm _ _ _ (fun A c w h1 h2 => sbs_yes A c l a b w h1 h2 hq) (fun A c w h1 h2 => bs_yes A c l a b w h1 h2 hq)
theorem law_znm (A : Option Addr) (cap : Nat) (l : List Int) (m : Int) (w : World) (hI : IAt w A l) (hm : l.length ≤ maxLen) :
    Calls Try.prog 11 #[.slice A l.length cap, .int .i64 m] w fun e w' => e = .returned (.bool true) ∧ Below w.heap.size w w' := by
  cases hp : plB l with
  | false => exact walkRaisePlaces A cap l m w hI hm [] (by simp) false (fun A c w h1 h2 => srs_no A c l m w h1 h2 (.inl hp)) (fun A c w h1 h2 => rs_no A c l m w h1 h2 (.inl hp))
  | true =>
    cases hh : mtB m with
    | false => exact walkRaisePlaces A cap l m w hI hm [] (by simp) false (fun A c w h1 h2 => srs_no A c l m w h1 h2 (.inr hh)) (fun A c w h1 h2 => rs_no A c l m w h1 h2 (.inr hh))
    | true =>
      have hq := plB_iff.1 hp
      cases hr : plB (rsK l m l.length) with
      | false => exact walkRaisePlaces A cap l m w hI hm [] (by simp) false (fun A c w h1 h2 => srs_false A c l m w h1 h2 hq hh hr) (fun A c w h1 h2 => rs_false A c l m w h1 h2 hq hh hr)
      | true => exact walkRaisePlaces A cap l m w hI hm (rsK l m l.length) (by rw [rsK_len]; have := hq.n; omega) true (fun A c w h1 h2 => srs_true A c l m w h1 h2 hq hh hr) (fun A c w h1 h2 => rs_true A c l m w h1 h2 hq hh hr)
end Go.Proofs.Ytjfpimldiokpbaa.S12
