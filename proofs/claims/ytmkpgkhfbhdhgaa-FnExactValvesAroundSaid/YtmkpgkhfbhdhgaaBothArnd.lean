/- The law FnExactValvesAround on its two sides: contracts. Conditions: each theorem's own premises. -/
import Derived.Test.YtmkpgkhfbhdhgaaWalkValvesAround
import Derived.Test.YtmkpgkhfbhdhgaaSArnd
namespace Go.Proofs.Ytmkpgkhfbhdhgaa.S2
open Go.RowKit P2 P4
theorem law_arnd (n : Int) (A : Option Addr) (cap : Nat) (ps : List Pp) (AV : Option Addr) (capv : Nat) (vs : List Vv) (x : Int) (w : World) (h : PAt w A ps) (hm : ps.length ≤ maxLen) (hv : VAt w AV vs) (hmv : vs.length ≤ maxLen) :
    Calls Try.prog 7 #[nv n A ps.length cap, .slice AV vs.length capv, .int .i64 x] w fun e w' => e = .returned (.bool true) ∧ Below w.heap.size w w' := by
  cases hg : goodV n ps vs with
  | false =>
    exact walkValvesAround n A cap ps AV capv vs x w h hm hv hmv [] false (by simp)
      (fun A cap AV capv w hl h hv _ _ => sarnd_no1 n A cap ps AV capv vs x w h hl hv hmv hg)
      (fun A cap AV capv w _ h hv hc hcm => around_no n A cap ps AV capv vs x w (fun w' hb => segp_no1 n A cap ps AV capv vs x w' (h.kept hb (Nat.le_refl _)) hm (hv.kept hb (Nat.le_refl _)) hmv hc hcm hg))
  | true =>
    have hgd := goodV_of hg
    obtain ⟨N, rfl⟩ : ∃ N : Nat, n = (N : Int) := ⟨n.toNat, by have := hgd.1.1; omega⟩
    by_cases hx : ∃ i, At ps x i
    · obtain ⟨i, hi⟩ := hx
      exact walkValvesAround N A cap ps AV capv vs x w h hm hv hmv (arndL ps vs (coB ps vs (one (9 + i)))) true (Nat.le_trans (sel_len _ _) (by have := hgd.2.1; omega))
        (fun A cap AV capv w _ h hv _ _ => sarnd_yes N A cap ps AV capv vs x w h hv hg i hi)
        (fun A cap AV capv w _ h hv hc hcm => around_yes N A cap ps AV capv vs x _ w h hv hgd (fun w' hb => segp_yes N A cap ps AV capv vs x w' (h.kept hb (Nat.le_refl _)) hm (hv.kept hb (Nat.le_refl _)) hmv hc hcm hg i hi))
    · have hno : ∀ i, i < ps.length → (pAt ps i).id ≠ x := fun i hi he => hx ⟨i, hi, he⟩
      exact walkValvesAround N A cap ps AV capv vs x w h hm hv hmv [] false (by simp)
        (fun A cap AV capv w hl h hv _ _ => sarnd_no2 N A cap ps AV capv vs x w h hl hv hmv hg hno)
        (fun A cap AV capv w _ h hv hc hcm => around_no N A cap ps AV capv vs x w (fun w' hb => segp_no2 N A cap ps AV capv vs x w' (h.kept hb (Nat.le_refl _)) hm (hv.kept hb (Nat.le_refl _)) hmv hc hcm hg hno))
end Go.Proofs.Ytmkpgkhfbhdhgaa.S2
