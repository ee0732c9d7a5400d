/-
  DERIVED. GIVEN WITH THE SEED: THE CARDS: each row of YtlifaeleoiodkaaGreatDoorRows.lean that lists a variable, with what it lists TIED to the program's text (the seventh form; the later family's looks); each row that meets fmt, with fmt's text TOLD by the authors' own Lean function (tested against real Go, not proved from fmt's source: count such statements apart). THE CARD IS WHAT COUNTS. Prove the row's statement (the work); the ties are given (YtlifaeleoiodkaaGreatDoorTie.lean); close each card by the builder's one call (the guide's Derived/Test/ToyasCard.lean, 'card_holds'). Laid BY PROGRAM, IN A SANDBOX (cutbox-door.mjs). By AI agents, Wed Nov 11 2026. No macro, syntax, notation, axiom, sorry.
-/
import Derived.Test.YtlifaeleoiodkaaGreatDoorRows
import GoSem.ClaimSeven
namespace Go.Proofs.YtlifaeleoiodkaaGreatDoor
namespace Rows

/-- THE TIED CARD OF 'laws.FnExactCaptureWarnings'. -/
def fnExactCaptureWarningsCard : Claim7 := { stood := { row := fnExactCaptureWarningsRow, standIns := [], harness := (true, "cc27496efd129fde06ed97f6832d46ac1d15ab63a02f0fbed3c7950b24cf49c7"), looks := true }, kinds := [], alts := [], laidByText := true, laidKinds := [.data, .pinned], laidTests := true, laidLooks := .later }
def FnExactCaptureWarningsCardSaid : Prop := Claim7.holds Tryz.pinned (.plain (OpenSpec.ofChange fnExactCaptureWarningsSpec)) fnExactCaptureWarningsCard

/-- THE TIED CARD OF 'laws.FnCaptureWarnings'. -/
def fnCaptureWarningsCard : Claim7 := { stood := { row := fnCaptureWarningsRow, standIns := [], harness := (true, "cc27496efd129fde06ed97f6832d46ac1d15ab63a02f0fbed3c7950b24cf49c7"), looks := true }, kinds := [], alts := [], laidByText := true, laidKinds := [.data, .pinned], laidTests := true, laidLooks := .later }
def FnCaptureWarningsCardSaid : Prop := Claim7.holds Tryz.pinned (.plain (OpenSpec.ofChange fnCaptureWarningsSpec)) fnCaptureWarningsCard

/-- THE SECOND FORM's CARD OF 'laws.FnExactCaptureWarnings'. -/
def fnExactCaptureWarningsUptoCard : Claim7 := { stood := { row := fnExactCaptureWarningsUptoRow, standIns := [], harness := (true, "cc27496efd129fde06ed97f6832d46ac1d15ab63a02f0fbed3c7950b24cf49c7"), looks := true }, kinds := [], alts := [], laidByText := true, laidKinds := [.data, .pinned], laidTests := true, laidLooks := .later }
def FnExactCaptureWarningsUptoCardSaid : Prop := Claim7.holds Tryz.pinned (.plain (OpenSpec.upto fnExactCaptureWarningsSpec)) fnExactCaptureWarningsUptoCard

/-- THE SECOND FORM's CARD OF 'laws.FnCaptureWarnings'. -/
def fnCaptureWarningsUptoCard : Claim7 := { stood := { row := fnCaptureWarningsUptoRow, standIns := [], harness := (true, "cc27496efd129fde06ed97f6832d46ac1d15ab63a02f0fbed3c7950b24cf49c7"), looks := true }, kinds := [], alts := [], laidByText := true, laidKinds := [.data, .pinned], laidTests := true, laidLooks := .later }
def FnCaptureWarningsUptoCardSaid : Prop := Claim7.holds Tryz.pinned (.plain (OpenSpec.upto fnCaptureWarningsSpec)) fnCaptureWarningsUptoCard
end Rows
end Go.Proofs.YtlifaeleoiodkaaGreatDoor
