/-
  DERIVED. GIVEN WITH THE SEED: THE CARDS: each row of YteekkccgdkmjoaaDoorRows.lean that lists a variable, with what it lists TIED to the program's text (the seventh form; the later family's looks); each row that meets fmt, with fmt's text TOLD by the authors' own Lean function (tested against real Go, not proved from fmt's source: count such statements apart). THE CARD IS WHAT COUNTS. Prove the row's statement (the work); the ties are given (YteekkccgdkmjoaaDoorTie.lean); close each card by the builder's one call (the guide's Derived/Test/ToyasCard.lean, 'card_holds'). Laid BY PROGRAM, IN A SANDBOX (cutbox-door.mjs). By AI agents, Wed Nov 11 2026. No macro, syntax, notation, axiom, sorry.
-/
import Derived.Test.YteekkccgdkmjoaaDoorRows
import GoSem.ClaimSeven
namespace Go.Proofs.YteekkccgdkmjoaaDoor
namespace Rows

/-- THE TIED CARD OF 'laws.FnExactRuleOf'. -/
def fnExactRuleOfCard : Claim7 := { stood := { row := fnExactRuleOfRow, standIns := [], harness := (true, "fe7627c79633f405b3959a2160c93b8eecbdeafa0e78ac5aa7f25865feebf5b2"), looks := false }, kinds := [], alts := [], laidByText := true, laidKinds := [.data, .pinned], laidTests := true, laidLooks := .later }
def FnExactRuleOfCardSaid : Prop := Claim7.holds Tryd.pinned (.plain (OpenSpec.ofChange fnExactRuleOfSpec)) fnExactRuleOfCard

/-- THE TIED CARD OF 'laws.FnExactShowWarnings'. -/
def fnExactShowWarningsCard : Claim7 := { stood := { row := fnExactShowWarningsRow, standIns := [], harness := (true, "fe7627c79633f405b3959a2160c93b8eecbdeafa0e78ac5aa7f25865feebf5b2"), looks := false }, kinds := [], alts := [], laidByText := true, laidKinds := [.data, .pinned], laidTests := true, laidLooks := .later }
def FnExactShowWarningsCardSaid : Prop := Claim7.holds Tryd.pinned (.plain (OpenSpec.ofChange fnExactShowWarningsSpec)) fnExactShowWarningsCard

/-- THE SECOND FORM's CARD OF 'laws.FnExactRuleOf'. -/
def fnExactRuleOfUptoCard : Claim7 := { stood := { row := fnExactRuleOfUptoRow, standIns := [], harness := (true, "fe7627c79633f405b3959a2160c93b8eecbdeafa0e78ac5aa7f25865feebf5b2"), looks := false }, kinds := [], alts := [], laidByText := true, laidKinds := [.data, .pinned], laidTests := true, laidLooks := .later }
def FnExactRuleOfUptoCardSaid : Prop := Claim7.holds Tryd.pinned (.plain (OpenSpec.upto fnExactRuleOfSpec)) fnExactRuleOfUptoCard

/-- THE SECOND FORM's CARD OF 'laws.FnExactShowWarnings'. -/
def fnExactShowWarningsUptoCard : Claim7 := { stood := { row := fnExactShowWarningsUptoRow, standIns := [], harness := (true, "fe7627c79633f405b3959a2160c93b8eecbdeafa0e78ac5aa7f25865feebf5b2"), looks := false }, kinds := [], alts := [], laidByText := true, laidKinds := [.data, .pinned], laidTests := true, laidLooks := .later }
def FnExactShowWarningsUptoCardSaid : Prop := Claim7.holds Tryd.pinned (.plain (OpenSpec.upto fnExactShowWarningsSpec)) fnExactShowWarningsUptoCard
end Rows
end Go.Proofs.YteekkccgdkmjoaaDoor
