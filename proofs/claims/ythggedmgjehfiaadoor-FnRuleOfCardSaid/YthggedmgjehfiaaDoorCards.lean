/-
  DERIVED. GIVEN WITH THE SEED: THE CARDS: each row of YthggedmgjehfiaaDoorRows.lean that lists a variable, with what it lists TIED to the program's text (the seventh form; the later family's looks); each row that meets fmt, with fmt's text TOLD by the authors' own Lean function (tested against real Go, not proved from fmt's source: count such statements apart). THE CARD IS WHAT COUNTS. Prove the row's statement (the work); the ties are given (YthggedmgjehfiaaDoorTie.lean); close each card by the builder's one call (the guide's Derived/Test/ToyasCard.lean, 'card_holds'). Laid BY PROGRAM, IN A SANDBOX (cutbox-door.mjs). By AI agents, Wed Nov 11 2026. No macro, syntax, notation, axiom, sorry.
-/
import Derived.Test.YthggedmgjehfiaaDoorRows
import GoSem.ClaimSeven
namespace Go.Proofs.YthggedmgjehfiaaDoor
namespace Rows

/-- THE TIED CARD OF 'laws.FnRuleOf'. -/
def fnRuleOfCard : Claim7 := { stood := { row := fnRuleOfRow, standIns := [], harness := (true, "b3c4e2036f8db7942b0588447fc274ba14480ac36a7906710a70b1564225d0e0"), looks := false }, kinds := [], alts := [], laidByText := true, laidKinds := [.data, .pinned], laidTests := true, laidLooks := .later }
def FnRuleOfCardSaid : Prop := Claim7.holds Tryd.pinned (.plain (OpenSpec.ofChange fnRuleOfSpec)) fnRuleOfCard

/-- THE SECOND FORM's CARD OF 'laws.FnRuleOf'. -/
def fnRuleOfUptoCard : Claim7 := { stood := { row := fnRuleOfUptoRow, standIns := [], harness := (true, "b3c4e2036f8db7942b0588447fc274ba14480ac36a7906710a70b1564225d0e0"), looks := false }, kinds := [], alts := [], laidByText := true, laidKinds := [.data, .pinned], laidTests := true, laidLooks := .later }
def FnRuleOfUptoCardSaid : Prop := Claim7.holds Tryd.pinned (.plain (OpenSpec.upto fnRuleOfSpec)) fnRuleOfUptoCard
end Rows
end Go.Proofs.YthggedmgjehfiaaDoor
