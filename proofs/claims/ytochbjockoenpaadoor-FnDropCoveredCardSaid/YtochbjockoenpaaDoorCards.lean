/-
  DERIVED. GIVEN WITH THE SEED: THE CARDS: each row of YtochbjockoenpaaDoorRows.lean that lists a variable, with what it lists TIED to the program's text (the seventh form; the later family's looks); each row that meets fmt, with fmt's text TOLD by the authors' own Lean function (tested against real Go, not proved from fmt's source: count such statements apart). THE CARD IS WHAT COUNTS. Prove the row's statement (the work); the ties are given (YtochbjockoenpaaDoorTie.lean); close each card by the builder's one call (the guide's Derived/Test/ToyasCard.lean, 'card_holds'). Laid BY PROGRAM, IN A SANDBOX (cutbox-door.mjs). By AI agents, Wed Nov 11 2026. No macro, syntax, notation, axiom, sorry.
-/
import Derived.Test.YtochbjockoenpaaDoorRows
import GoSem.ClaimSeven
namespace Go.Proofs.YtochbjockoenpaaDoor
namespace Rows

/-- THE TIED CARD OF 'laws.FnDropCovered'. -/
def fnDropCoveredCard : Claim7 := { stood := { row := fnDropCoveredRow, standIns := [], harness := (true, "e61f345bb44ebb41821b9b9cc1c1a9ea057a75fca0cd4bbd36d4e2a5a3a9d110"), looks := false }, kinds := [], alts := [], laidByText := true, laidKinds := [.data, .pinned], laidTests := true, laidLooks := .later }
def FnDropCoveredCardSaid : Prop := Claim7.holds Tryd.pinned (.plain (OpenSpec.ofChange fnDropCoveredSpec)) fnDropCoveredCard

/-- THE SECOND FORM's CARD OF 'laws.FnDropCovered'. -/
def fnDropCoveredUptoCard : Claim7 := { stood := { row := fnDropCoveredUptoRow, standIns := [], harness := (true, "e61f345bb44ebb41821b9b9cc1c1a9ea057a75fca0cd4bbd36d4e2a5a3a9d110"), looks := false }, kinds := [], alts := [], laidByText := true, laidKinds := [.data, .pinned], laidTests := true, laidLooks := .later }
def FnDropCoveredUptoCardSaid : Prop := Claim7.holds Tryd.pinned (.plain (OpenSpec.upto fnDropCoveredSpec)) fnDropCoveredUptoCard
end Rows
end Go.Proofs.YtochbjockoenpaaDoor
