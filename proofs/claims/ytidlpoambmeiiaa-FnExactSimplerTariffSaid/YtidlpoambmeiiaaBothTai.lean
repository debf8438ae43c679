/- SimplerTariff: both sides. Conditions: each theorem's own premises. -/
import Derived.Test.YtidlpoambmeiiaaWalkTai
import Derived.Test.YtidlpoambmeiiaaWalkTaiN
import Derived.Test.YtidlpoambmeiiaaTaSmS
namespace Go.Proofs.Ytidlpoambmeiiaa.S14
open Go.RowKit P14

theorem law_tai (t0 : Ta) (A0 : Option Addr) (c0 : Nat) (w : World) (hx0 : CAt w A0 t0.bs) (hm0 : t0.bs.length ≤ maxLen) :
    Calls Try.prog 12 #[tv t0 A0 c0] w fun e w' => e = .returned (.bool true) ∧ Below w.heap.size w w' := by
  cases hg : gB t0 with
  | true =>
    exact walkSimplerTariff t0 A0 c0 w hx0 hm0 (smT t0) (by have h1 := smL_len t0.bs t0.bs.length; have h2 := (gB_of hg).2.1.2; show (smL t0.bs t0.bs.length).length ≤ 1000; omega) true
      (fun A0 c0 w h0 => (ssimp_any t0 A0 c0 w h0).mono fun e w' h => by
        rcases h with ⟨_, h⟩ | ⟨h, _⟩
        · exact h
        · rw [hg] at h; cases h)
      (fun A0 c0 w h0 => (simp_any t0 A0 c0 w h0).mono fun e w' h => by
        rcases h with ⟨_, h⟩ | ⟨h, _⟩
        · exact h
        · rw [hg] at h; cases h)
  | false =>
    exact walkSimplerTariffn t0 A0 c0 w hx0 hm0
      (fun A0 c0 w h0 => (ssimp_any t0 A0 c0 w h0).mono fun e w' h => by
        rcases h with ⟨h, _⟩ | ⟨_, h⟩
        · rw [hg] at h; cases h
        · exact h)
      (fun A0 c0 w h0 => (simp_any t0 A0 c0 w h0).mono fun e w' h => by
        rcases h with ⟨h, _⟩ | ⟨_, h⟩
        · rw [hg] at h; cases h
        · exact h)
end Go.Proofs.Ytidlpoambmeiiaa.S14
