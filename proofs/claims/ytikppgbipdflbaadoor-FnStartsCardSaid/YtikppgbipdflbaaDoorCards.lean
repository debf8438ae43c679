/-
  DERIVED. GIVEN WITH THE SEED: THE CARDS: each row of YtikppgbipdflbaaDoorRows.lean that lists a variable, with what it lists TIED to the program's text (the seventh form; the later family's looks); each row that meets fmt, with fmt's text TOLD by the authors' own Lean function (tested against real Go, not proved from fmt's source: count such statements apart). THE CARD IS WHAT COUNTS. Prove the row's statement (the work); the ties are given (YtikppgbipdflbaaDoorTie.lean); close each card by the builder's one call (the guide's Derived/Test/ToyasCard.lean, 'card_holds'). Laid BY PROGRAM, IN A SANDBOX (cutbox-door.mjs). By AI agents, Wed Nov 11 2026. No macro, syntax, notation, axiom, sorry.
-/
import Derived.Test.YtikppgbipdflbaaDoorRows
import GoSem.ClaimSeven
namespace Go.Proofs.YtikppgbipdflbaaDoor
namespace Rows

/-- THE TIED CARD OF 'laws.FnExactLeastStart'. -/
def fnExactLeastStartCard : Claim7 := { stood := { row := fnExactLeastStartRow, standIns := [], harness := (true, "3b8b7b49a2b4728c268d58280a996a97b708438f1bee2f9ab4c0d059782c67e0"), looks := true }, kinds := [], alts := [], laidByText := true, laidKinds := [.sentinel], laidTests := true, laidLooks := .later }
def FnExactLeastStartCardSaid : Prop := Claim7.holds Tryd.pinned (.plain (OpenSpec.ofChange fnExactLeastStartSpec)) fnExactLeastStartCard

/-- THE TIED CARD OF 'laws.FnExactFirstMissing'. -/
def fnExactFirstMissingCard : Claim7 := { stood := { row := fnExactFirstMissingRow, standIns := [], harness := (true, "3b8b7b49a2b4728c268d58280a996a97b708438f1bee2f9ab4c0d059782c67e0"), looks := true }, kinds := [], alts := [], laidByText := true, laidKinds := [.handle, .sentinel], laidTests := true, laidLooks := .later }
def FnExactFirstMissingCardSaid : Prop := Claim7.holds Tryd.pinned (.plain (OpenSpec.ofChange fnExactFirstMissingSpec)) fnExactFirstMissingCard

/-- THE TIED CARD OF 'laws.FnTanks'. -/
def fnTanksCard : Claim7 := { stood := { row := fnTanksRow, standIns := [], harness := (true, "3b8b7b49a2b4728c268d58280a996a97b708438f1bee2f9ab4c0d059782c67e0"), looks := true }, kinds := [], alts := [], laidByText := true, laidKinds := [.handle, .sentinel], laidTests := true, laidLooks := .later }
def FnTanksCardSaid : Prop := Claim7.holds Tryd.pinned (.plain (OpenSpec.ofChange fnTanksSpec)) fnTanksCard

/-- THE TIED CARD OF 'laws.FnStarts'. -/
def fnStartsCard : Claim7 := { stood := { row := fnStartsRow, standIns := [], harness := (true, "3b8b7b49a2b4728c268d58280a996a97b708438f1bee2f9ab4c0d059782c67e0"), looks := true }, kinds := [], alts := [], laidByText := true, laidKinds := [.handle, .sentinel], laidTests := true, laidLooks := .later }
def FnStartsCardSaid : Prop := Claim7.holds Tryd.pinned (.plain (OpenSpec.ofChange fnStartsSpec)) fnStartsCard

/-- THE SECOND FORM's CARD OF 'laws.FnExactLeastStart'. -/
def fnExactLeastStartUptoCard : Claim7 := { stood := { row := fnExactLeastStartUptoRow, standIns := [], harness := (true, "3b8b7b49a2b4728c268d58280a996a97b708438f1bee2f9ab4c0d059782c67e0"), looks := true }, kinds := [], alts := [], laidByText := true, laidKinds := [.sentinel], laidTests := true, laidLooks := .later }
def FnExactLeastStartUptoCardSaid : Prop := Claim7.holds Tryd.pinned (.plain (OpenSpec.upto fnExactLeastStartSpec)) fnExactLeastStartUptoCard

/-- THE SECOND FORM's CARD OF 'laws.FnExactFirstMissing'. -/
def fnExactFirstMissingUptoCard : Claim7 := { stood := { row := fnExactFirstMissingUptoRow, standIns := [], harness := (true, "3b8b7b49a2b4728c268d58280a996a97b708438f1bee2f9ab4c0d059782c67e0"), looks := true }, kinds := [], alts := [], laidByText := true, laidKinds := [.handle, .sentinel], laidTests := true, laidLooks := .later }
def FnExactFirstMissingUptoCardSaid : Prop := Claim7.holds Tryd.pinned (.plain (OpenSpec.upto fnExactFirstMissingSpec)) fnExactFirstMissingUptoCard

/-- THE SECOND FORM's CARD OF 'laws.FnTanks'. -/
def fnTanksUptoCard : Claim7 := { stood := { row := fnTanksUptoRow, standIns := [], harness := (true, "3b8b7b49a2b4728c268d58280a996a97b708438f1bee2f9ab4c0d059782c67e0"), looks := true }, kinds := [], alts := [], laidByText := true, laidKinds := [.handle, .sentinel], laidTests := true, laidLooks := .later }
def FnTanksUptoCardSaid : Prop := Claim7.holds Tryd.pinned (.plain (OpenSpec.upto fnTanksSpec)) fnTanksUptoCard

/-- THE SECOND FORM's CARD OF 'laws.FnStarts'. -/
def fnStartsUptoCard : Claim7 := { stood := { row := fnStartsUptoRow, standIns := [], harness := (true, "3b8b7b49a2b4728c268d58280a996a97b708438f1bee2f9ab4c0d059782c67e0"), looks := true }, kinds := [], alts := [], laidByText := true, laidKinds := [.handle, .sentinel], laidTests := true, laidLooks := .later }
def FnStartsUptoCardSaid : Prop := Claim7.holds Tryd.pinned (.plain (OpenSpec.upto fnStartsSpec)) fnStartsUptoCard
end Rows
end Go.Proofs.YtikppgbipdflbaaDoor
