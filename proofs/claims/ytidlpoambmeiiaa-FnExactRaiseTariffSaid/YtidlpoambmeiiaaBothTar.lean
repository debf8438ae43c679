/- RaiseTariff: both sides. Conditions: each theorem's own premises. -/
import Derived.Test.YtidlpoambmeiiaaWalkTar
import Derived.Test.YtidlpoambmeiiaaWalkTarN
import Derived.Test.YtidlpoambmeiiaaTaRzS
namespace Go.Proofs.Ytidlpoambmeiiaa.S14
open Go.RowKit P14

theorem law_tar (t0 : Ta) (A0 : Option Addr) (c0 : Nat) (x1 : Int) (w : World) (hx0 : CAt w A0 t0.bs) (hm0 : t0.bs.length ≤ maxLen) :
    Calls Try.prog 11 #[tv t0 A0 c0, .int .i64 x1] w fun e w' => e = .returned (.bool true) ∧ Below w.heap.size w w' := by
  cases hg : rzB t0 x1 with
  | true =>
    exact walkRaiseTariff t0 A0 c0 x1 w hx0 hm0 (rzT t0 x1) (by have h1 := rzL_len t0.bs x1 t0.bs.length; have h2 := (rzB_of hg).1.2.1.2; show (rzL t0.bs x1 t0.bs.length).length ≤ 1000; omega) true
      (fun A0 c0 w h0 => (sraise_any t0 A0 c0 x1 w h0).mono fun e w' h => by
        rcases h with ⟨_, h⟩ | ⟨h, _⟩
        · exact h
        · rw [hg] at h; cases h)
      (fun A0 c0 w h0 => (raise_any t0 A0 c0 x1 w h0).mono fun e w' h => by
        rcases h with ⟨_, h⟩ | ⟨h, _⟩
        · exact h
        · rw [hg] at h; cases h)
  | false =>
    exact walkRaiseTariffn t0 A0 c0 x1 w hx0 hm0
      (fun A0 c0 w h0 => (sraise_any t0 A0 c0 x1 w h0).mono fun e w' h => by
        rcases h with ⟨h, _⟩ | ⟨_, h⟩
        · rw [hg] at h; cases h
        · exact h)
      (fun A0 c0 w h0 => (raise_any t0 A0 c0 x1 w h0).mono fun e w' h => by
        rcases h with ⟨h, _⟩ | ⟨_, h⟩
        · rw [hg] at h; cases h
        · exact h)
end Go.Proofs.Ytidlpoambmeiiaa.S14
