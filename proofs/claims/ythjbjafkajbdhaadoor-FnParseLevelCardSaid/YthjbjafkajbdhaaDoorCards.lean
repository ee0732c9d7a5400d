/-
  DERIVED. GIVEN WITH THE SEED: THE CARDS: each row of YthjbjafkajbdhaaDoorRows.lean that lists a variable, with what it lists TIED to the program's text (the seventh form; the later family's looks); each row that meets fmt, with fmt's text TOLD by the authors' own Lean function (tested against real Go, not proved from fmt's source: count such statements apart). THE CARD IS WHAT COUNTS. Prove the row's statement (the work); the ties are given (YthjbjafkajbdhaaDoorTie.lean); close each card by the builder's one call (the guide's Derived/Test/ToyasCard.lean, 'card_holds'). Laid BY PROGRAM, IN A SANDBOX (cutbox-door.mjs). By AI agents, Wed Nov 11 2026. No macro, syntax, notation, axiom, sorry.
-/
import Derived.Test.YthjbjafkajbdhaaDoorRows
import GoSem.ClaimSeven
namespace Go.Proofs.YthjbjafkajbdhaaDoor
namespace Rows

/-- THE TIED CARD OF 'laws.FnExactLevelName'. -/
def fnExactLevelNameCard : Claim7 := { stood := { row := fnExactLevelNameRow, standIns := [], harness := (true, "bc105e2dfffe6aca6775b4c13d553d90f52a9e8f0e00bfda17bf95b91be58562"), looks := false }, kinds := [], alts := [], laidByText := true, laidKinds := [.data, .data, .data], laidTests := true, laidLooks := .later }
def FnExactLevelNameCardSaid : Prop := Claim7.holds Tryd.pinned (.plain (OpenSpec.ofChange fnExactLevelNameSpec)) fnExactLevelNameCard

/-- THE TIED CARD OF 'laws.FnExactParseLevel'. -/
def fnExactParseLevelCard : Claim7 := { stood := { row := fnExactParseLevelRow, standIns := [], harness := (true, "bc105e2dfffe6aca6775b4c13d553d90f52a9e8f0e00bfda17bf95b91be58562"), looks := false }, kinds := [], alts := [], laidByText := true, laidKinds := [.data, .data, .data], laidTests := true, laidLooks := .later }
def FnExactParseLevelCardSaid : Prop := Claim7.holds Tryd.pinned (.plain (OpenSpec.ofChange fnExactParseLevelSpec)) fnExactParseLevelCard

/-- THE TIED CARD OF 'laws.FnLevelName'. -/
def fnLevelNameCard : Claim7 := { stood := { row := fnLevelNameRow, standIns := [], harness := (true, "bc105e2dfffe6aca6775b4c13d553d90f52a9e8f0e00bfda17bf95b91be58562"), looks := false }, kinds := [], alts := [], laidByText := true, laidKinds := [.data, .data, .data], laidTests := true, laidLooks := .later }
def FnLevelNameCardSaid : Prop := Claim7.holds Tryd.pinned (.plain (OpenSpec.ofChange fnLevelNameSpec)) fnLevelNameCard

/-- THE TIED CARD OF 'laws.FnParseLevel'. -/
def fnParseLevelCard : Claim7 := { stood := { row := fnParseLevelRow, standIns := [], harness := (true, "bc105e2dfffe6aca6775b4c13d553d90f52a9e8f0e00bfda17bf95b91be58562"), looks := false }, kinds := [], alts := [], laidByText := true, laidKinds := [.data, .data, .data], laidTests := true, laidLooks := .later }
def FnParseLevelCardSaid : Prop := Claim7.holds Tryd.pinned (.plain (OpenSpec.ofChange fnParseLevelSpec)) fnParseLevelCard

/-- THE TIED CARD OF 'laws.FnExactFormatRecord'. -/
def fnExactFormatRecordCard : Claim7 := { stood := { row := fnExactFormatRecordRow, standIns := [], harness := (true, "bc105e2dfffe6aca6775b4c13d553d90f52a9e8f0e00bfda17bf95b91be58562"), looks := false }, kinds := [], alts := [], laidByText := true, laidKinds := [.data, .data, .data], laidTests := true, laidLooks := .later }
def FnExactFormatRecordCardSaid : Prop := Claim7.holds Tryd.pinned (.plain (OpenSpec.ofChange fnExactFormatRecordSpec)) fnExactFormatRecordCard

/-- THE SECOND FORM's CARD OF 'laws.FnExactLevelName'. -/
def fnExactLevelNameUptoCard : Claim7 := { stood := { row := fnExactLevelNameUptoRow, standIns := [], harness := (true, "bc105e2dfffe6aca6775b4c13d553d90f52a9e8f0e00bfda17bf95b91be58562"), looks := false }, kinds := [], alts := [], laidByText := true, laidKinds := [.data, .data, .data], laidTests := true, laidLooks := .later }
def FnExactLevelNameUptoCardSaid : Prop := Claim7.holds Tryd.pinned (.plain (OpenSpec.upto fnExactLevelNameSpec)) fnExactLevelNameUptoCard

/-- THE SECOND FORM's CARD OF 'laws.FnExactParseLevel'. -/
def fnExactParseLevelUptoCard : Claim7 := { stood := { row := fnExactParseLevelUptoRow, standIns := [], harness := (true, "bc105e2dfffe6aca6775b4c13d553d90f52a9e8f0e00bfda17bf95b91be58562"), looks := false }, kinds := [], alts := [], laidByText := true, laidKinds := [.data, .data, .data], laidTests := true, laidLooks := .later }
def FnExactParseLevelUptoCardSaid : Prop := Claim7.holds Tryd.pinned (.plain (OpenSpec.upto fnExactParseLevelSpec)) fnExactParseLevelUptoCard

/-- THE SECOND FORM's CARD OF 'laws.FnLevelName'. -/
def fnLevelNameUptoCard : Claim7 := { stood := { row := fnLevelNameUptoRow, standIns := [], harness := (true, "bc105e2dfffe6aca6775b4c13d553d90f52a9e8f0e00bfda17bf95b91be58562"), looks := false }, kinds := [], alts := [], laidByText := true, laidKinds := [.data, .data, .data], laidTests := true, laidLooks := .later }
def FnLevelNameUptoCardSaid : Prop := Claim7.holds Tryd.pinned (.plain (OpenSpec.upto fnLevelNameSpec)) fnLevelNameUptoCard

/-- THE SECOND FORM's CARD OF 'laws.FnParseLevel'. -/
def fnParseLevelUptoCard : Claim7 := { stood := { row := fnParseLevelUptoRow, standIns := [], harness := (true, "bc105e2dfffe6aca6775b4c13d553d90f52a9e8f0e00bfda17bf95b91be58562"), looks := false }, kinds := [], alts := [], laidByText := true, laidKinds := [.data, .data, .data], laidTests := true, laidLooks := .later }
def FnParseLevelUptoCardSaid : Prop := Claim7.holds Tryd.pinned (.plain (OpenSpec.upto fnParseLevelSpec)) fnParseLevelUptoCard

/-- THE SECOND FORM's CARD OF 'laws.FnExactFormatRecord'. -/
def fnExactFormatRecordUptoCard : Claim7 := { stood := { row := fnExactFormatRecordUptoRow, standIns := [], harness := (true, "bc105e2dfffe6aca6775b4c13d553d90f52a9e8f0e00bfda17bf95b91be58562"), looks := false }, kinds := [], alts := [], laidByText := true, laidKinds := [.data, .data, .data], laidTests := true, laidLooks := .later }
def FnExactFormatRecordUptoCardSaid : Prop := Claim7.holds Tryd.pinned (.plain (OpenSpec.upto fnExactFormatRecordSpec)) fnExactFormatRecordUptoCard
end Rows
end Go.Proofs.YthjbjafkajbdhaaDoor
