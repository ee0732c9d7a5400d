/-
  DERIVED. GIVEN WITH THE SEED: THE CARDS: each row of YtaniaadmphojeaaDoorRows.lean that lists a variable, with what it lists TIED to the program's text (the seventh form; the later family's looks); each row that meets fmt, with fmt's text TOLD by the authors' own Lean function (tested against real Go, not proved from fmt's source: count such statements apart). THE CARD IS WHAT COUNTS. Prove the row's statement (the work); the ties are given (YtaniaadmphojeaaDoorTie.lean); close each card by the builder's one call (the guide's Derived/Test/ToyasCard.lean, 'card_holds'). Laid BY PROGRAM, IN A SANDBOX (cutbox-door.mjs). By AI agents, Wed Nov 11 2026. No macro, syntax, notation, axiom, sorry.
-/
import Derived.Test.YtaniaadmphojeaaDoorRows
import GoSem.ClaimSeven
namespace Go.Proofs.YtaniaadmphojeaaDoor
namespace Rows

/-- THE TIED CARD OF 'laws.FnExactShowWarnings'. -/
def fnExactShowWarningsCard : Claim7 := { stood := { row := fnExactShowWarningsRow, standIns := [], harness := (true, "e7297a725b2e0394cf42c8c46456ba19a3cfcffcb06a67b70d4f3b34b7d12685"), looks := false }, kinds := [], alts := [], laidByText := true, laidKinds := [.data, .pinned], laidTests := true, laidLooks := .later }
def FnExactShowWarningsCardSaid : Prop := Claim7.holds Tryd.pinned (.plain (OpenSpec.ofChange fnExactShowWarningsSpec)) fnExactShowWarningsCard

/-- THE TIED CARD OF 'laws.FnValidWarnings'. -/
def fnValidWarningsCard : Claim7 := { stood := { row := fnValidWarningsRow, standIns := [], harness := (true, "e7297a725b2e0394cf42c8c46456ba19a3cfcffcb06a67b70d4f3b34b7d12685"), looks := false }, kinds := [], alts := [], laidByText := true, laidKinds := [.data, .pinned], laidTests := true, laidLooks := .later }
def FnValidWarningsCardSaid : Prop := Claim7.holds Tryd.pinned (.plain (OpenSpec.ofChange fnValidWarningsSpec)) fnValidWarningsCard

/-- THE TIED CARD OF 'laws.FnShowWarnings'. -/
def fnShowWarningsCard : Claim7 := { stood := { row := fnShowWarningsRow, standIns := [], harness := (true, "e7297a725b2e0394cf42c8c46456ba19a3cfcffcb06a67b70d4f3b34b7d12685"), looks := false }, kinds := [], alts := [], laidByText := true, laidKinds := [.data, .pinned], laidTests := true, laidLooks := .later }
def FnShowWarningsCardSaid : Prop := Claim7.holds Tryd.pinned (.plain (OpenSpec.ofChange fnShowWarningsSpec)) fnShowWarningsCard

/-- THE TIED CARD OF 'laws.FnShowWarningsOnce'. -/
def fnShowWarningsOnceCard : Claim7 := { stood := { row := fnShowWarningsOnceRow, standIns := [], harness := (true, "e7297a725b2e0394cf42c8c46456ba19a3cfcffcb06a67b70d4f3b34b7d12685"), looks := false }, kinds := [], alts := [], laidByText := true, laidKinds := [.data, .pinned], laidTests := true, laidLooks := .later }
def FnShowWarningsOnceCardSaid : Prop := Claim7.holds Tryd.pinned (.plain (OpenSpec.ofChange fnShowWarningsOnceSpec)) fnShowWarningsOnceCard

/-- THE SECOND FORM's CARD OF 'laws.FnExactShowWarnings'. -/
def fnExactShowWarningsUptoCard : Claim7 := { stood := { row := fnExactShowWarningsUptoRow, standIns := [], harness := (true, "e7297a725b2e0394cf42c8c46456ba19a3cfcffcb06a67b70d4f3b34b7d12685"), looks := false }, kinds := [], alts := [], laidByText := true, laidKinds := [.data, .pinned], laidTests := true, laidLooks := .later }
def FnExactShowWarningsUptoCardSaid : Prop := Claim7.holds Tryd.pinned (.plain (OpenSpec.upto fnExactShowWarningsSpec)) fnExactShowWarningsUptoCard

/-- THE SECOND FORM's CARD OF 'laws.FnValidWarnings'. -/
def fnValidWarningsUptoCard : Claim7 := { stood := { row := fnValidWarningsUptoRow, standIns := [], harness := (true, "e7297a725b2e0394cf42c8c46456ba19a3cfcffcb06a67b70d4f3b34b7d12685"), looks := false }, kinds := [], alts := [], laidByText := true, laidKinds := [.data, .pinned], laidTests := true, laidLooks := .later }
def FnValidWarningsUptoCardSaid : Prop := Claim7.holds Tryd.pinned (.plain (OpenSpec.upto fnValidWarningsSpec)) fnValidWarningsUptoCard

/-- THE SECOND FORM's CARD OF 'laws.FnShowWarnings'. -/
def fnShowWarningsUptoCard : Claim7 := { stood := { row := fnShowWarningsUptoRow, standIns := [], harness := (true, "e7297a725b2e0394cf42c8c46456ba19a3cfcffcb06a67b70d4f3b34b7d12685"), looks := false }, kinds := [], alts := [], laidByText := true, laidKinds := [.data, .pinned], laidTests := true, laidLooks := .later }
def FnShowWarningsUptoCardSaid : Prop := Claim7.holds Tryd.pinned (.plain (OpenSpec.upto fnShowWarningsSpec)) fnShowWarningsUptoCard

/-- THE SECOND FORM's CARD OF 'laws.FnShowWarningsOnce'. -/
def fnShowWarningsOnceUptoCard : Claim7 := { stood := { row := fnShowWarningsOnceUptoRow, standIns := [], harness := (true, "e7297a725b2e0394cf42c8c46456ba19a3cfcffcb06a67b70d4f3b34b7d12685"), looks := false }, kinds := [], alts := [], laidByText := true, laidKinds := [.data, .pinned], laidTests := true, laidLooks := .later }
def FnShowWarningsOnceUptoCardSaid : Prop := Claim7.holds Tryd.pinned (.plain (OpenSpec.upto fnShowWarningsOnceSpec)) fnShowWarningsOnceUptoCard
end Rows
end Go.Proofs.YtaniaadmphojeaaDoor
