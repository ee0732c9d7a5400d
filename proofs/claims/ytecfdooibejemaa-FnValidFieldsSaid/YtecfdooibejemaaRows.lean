/-
  No cell of these rows narrows 'for every input' (looked for: loops, veiled, ifaces, maps, wideKeys, modest, calm, conditions, laid).
  DERIVED. THE GIVEN ROWS OF THIS SEAT. 7 by the template 'for every input the law returns true; each argument reads behind the call as it read before'; 0 by the template 'total and deterministic' (their statements: YtecfdooibejemaaTotals.lean).
  GIVEN WITH THE SEED: the statements are not yours to turn. If you find one false, say at which input.
  Laid BY PROGRAM, IN A SANDBOX (cutbox-rows.mjs): the forced cells as the released guide's own fill.sh prints them over the translation 9f5a594b7dee75ab… (all of the seat's roots in one cut). By AI agents, Wed Nov 11 2026. No macro, syntax, notation, axiom, sorry.
-/
import Derived.Test.YtecfdooibejemaaChecked
import GoSem.Claim
import GoSem.ClaimJoined
import GoSem.ClaimMapViews
import Derived.JoinedTies
import Derived.KernelRfl
namespace Go.Proofs.Ytecfdooibejemaa
/- THE CELL 'sum', in the pinned program and in every row, IS THE sha256 OF THE DUMP (.gsa) THAT YtecfdooibejemaaProg.lean LOADS. Nothing in Lean hashes anything: it is a label: what it is worth is what the hold of that sum in a sandbox is worth. -/
noncomputable def Try.pinned : Pinned := { name := "ytecfdooibejemaa", sum := "9f5a594b7dee75ab31ce8179b4efa09cd44269d646aa649d8c4f23144d9cf7e1", checked := Try.checked }
namespace Rows
def none {H : Type} : Left H := { results := [], args := [] }

/-- 'laws.FnExactValidRules': WHATEVER THE INPUT: true; the input reads as it did. -/
def fnExactValidRulesSpec : ChangeSpec := { name := "fnExactValidRules", fn := fun _ => fun
  | [d] => { results := [.lit (.bool true)], args := [d] }
  | _ => none }
def fnExactValidRulesRow : OpenClaim := { program := "ytecfdooibejemaa", sum := "9f5a594b7dee75ab31ce8179b4efa09cd44269d646aa649d8c4f23144d9cf7e1", func := "loop.example/loggertree/laws.FnExactValidRules", spec := "fnExactValidRules", apart := false }
def FnExactValidRulesSaid : Prop := fnExactValidRulesRow.holds Try.pinned (OpenSpec.ofChange fnExactValidRulesSpec)

/-- ITS FALSE NEIGHBOUR: 'it returns false'. Refute it at one input. -/
def fnExactValidRulesWrong : ChangeSpec := { name := "fnExactValidRules", fn := fun _ => fun
  | [d] => { results := [.lit (.bool false)], args := [d] }
  | _ => none }
def FnExactValidRulesWrongFalsely : Prop := fnExactValidRulesRow.holds Try.pinned (OpenSpec.ofChange fnExactValidRulesWrong)

/-- 'laws.FnExactValidWarnings': WHATEVER THE INPUT: true; the input reads as it did. -/
def fnExactValidWarningsSpec : ChangeSpec := { name := "fnExactValidWarnings", fn := fun _ => fun
  | [d] => { results := [.lit (.bool true)], args := [d] }
  | _ => none }
def fnExactValidWarningsRow : OpenClaim := { program := "ytecfdooibejemaa", sum := "9f5a594b7dee75ab31ce8179b4efa09cd44269d646aa649d8c4f23144d9cf7e1", func := "loop.example/loggertree/laws.FnExactValidWarnings", spec := "fnExactValidWarnings", apart := false }
def FnExactValidWarningsSaid : Prop := fnExactValidWarningsRow.holds Try.pinned (OpenSpec.ofChange fnExactValidWarningsSpec)

/-- ITS FALSE NEIGHBOUR: 'it returns false'. Refute it at one input. -/
def fnExactValidWarningsWrong : ChangeSpec := { name := "fnExactValidWarnings", fn := fun _ => fun
  | [d] => { results := [.lit (.bool false)], args := [d] }
  | _ => none }
def FnExactValidWarningsWrongFalsely : Prop := fnExactValidWarningsRow.holds Try.pinned (OpenSpec.ofChange fnExactValidWarningsWrong)

/-- 'laws.FnExactValidFields': WHATEVER THE INPUT: true; the input reads as it did. -/
def fnExactValidFieldsSpec : ChangeSpec := { name := "fnExactValidFields", fn := fun _ => fun
  | [d] => { results := [.lit (.bool true)], args := [d] }
  | _ => none }
def fnExactValidFieldsRow : OpenClaim := { program := "ytecfdooibejemaa", sum := "9f5a594b7dee75ab31ce8179b4efa09cd44269d646aa649d8c4f23144d9cf7e1", func := "loop.example/loggertree/laws.FnExactValidFields", spec := "fnExactValidFields", unfollowed := true, recurses := true, apart := false }
def FnExactValidFieldsSaid : Prop := fnExactValidFieldsRow.holds Try.pinned (OpenSpec.ofChange fnExactValidFieldsSpec)

/-- ITS FALSE NEIGHBOUR: 'it returns false'. Refute it at one input. -/
def fnExactValidFieldsWrong : ChangeSpec := { name := "fnExactValidFields", fn := fun _ => fun
  | [d] => { results := [.lit (.bool false)], args := [d] }
  | _ => none }
def FnExactValidFieldsWrongFalsely : Prop := fnExactValidFieldsRow.holds Try.pinned (OpenSpec.ofChange fnExactValidFieldsWrong)

/-- 'laws.FnExactDropCovered': WHATEVER THE INPUT: true; the input reads as it did. -/
def fnExactDropCoveredSpec : ChangeSpec := { name := "fnExactDropCovered", fn := fun _ => fun
  | [d] => { results := [.lit (.bool true)], args := [d] }
  | _ => none }
def fnExactDropCoveredRow : OpenClaim := { program := "ytecfdooibejemaa", sum := "9f5a594b7dee75ab31ce8179b4efa09cd44269d646aa649d8c4f23144d9cf7e1", func := "loop.example/loggertree/laws.FnExactDropCovered", spec := "fnExactDropCovered", unfollowed := true, recurses := true, apart := false }
def FnExactDropCoveredSaid : Prop := fnExactDropCoveredRow.holds Try.pinned (OpenSpec.ofChange fnExactDropCoveredSpec)

/-- ITS FALSE NEIGHBOUR: 'it returns false'. Refute it at one input. -/
def fnExactDropCoveredWrong : ChangeSpec := { name := "fnExactDropCovered", fn := fun _ => fun
  | [d] => { results := [.lit (.bool false)], args := [d] }
  | _ => none }
def FnExactDropCoveredWrongFalsely : Prop := fnExactDropCoveredRow.holds Try.pinned (OpenSpec.ofChange fnExactDropCoveredWrong)

/-- 'laws.FnExactAddRule': WHATEVER THE INPUT: true; the input reads as it did. -/
def fnExactAddRuleSpec : ChangeSpec := { name := "fnExactAddRule", fn := fun _ => fun
  | [d1, d2, d3] => { results := [.lit (.bool true)], args := [d1, d2, d3] }
  | _ => none }
def fnExactAddRuleRow : OpenClaim := { program := "ytecfdooibejemaa", sum := "9f5a594b7dee75ab31ce8179b4efa09cd44269d646aa649d8c4f23144d9cf7e1", func := "loop.example/loggertree/laws.FnExactAddRule", spec := "fnExactAddRule", inPlace := ["slices.overlaps[loop.example/loggertree/impl.Rule]"], unfollowed := true, recurses := true, apart := false }
def FnExactAddRuleSaid : Prop := fnExactAddRuleRow.holds Try.pinned (OpenSpec.ofChange fnExactAddRuleSpec)

/-- ITS FALSE NEIGHBOUR: 'it returns false'. Refute it at one input. -/
def fnExactAddRuleWrong : ChangeSpec := { name := "fnExactAddRule", fn := fun _ => fun
  | [d1, d2, d3] => { results := [.lit (.bool false)], args := [d1, d2, d3] }
  | _ => none }
def FnExactAddRuleWrongFalsely : Prop := fnExactAddRuleRow.holds Try.pinned (OpenSpec.ofChange fnExactAddRuleWrong)

/-- 'laws.FnValidRules': WHATEVER THE INPUT: true; the input reads as it did. -/
def fnValidRulesSpec : ChangeSpec := { name := "fnValidRules", fn := fun _ => fun
  | [d] => { results := [.lit (.bool true)], args := [d] }
  | _ => none }
def fnValidRulesRow : OpenClaim := { program := "ytecfdooibejemaa", sum := "9f5a594b7dee75ab31ce8179b4efa09cd44269d646aa649d8c4f23144d9cf7e1", func := "loop.example/loggertree/laws.FnValidRules", spec := "fnValidRules", apart := false }
def FnValidRulesSaid : Prop := fnValidRulesRow.holds Try.pinned (OpenSpec.ofChange fnValidRulesSpec)

/-- ITS FALSE NEIGHBOUR: 'it returns false'. Refute it at one input. -/
def fnValidRulesWrong : ChangeSpec := { name := "fnValidRules", fn := fun _ => fun
  | [d] => { results := [.lit (.bool false)], args := [d] }
  | _ => none }
def FnValidRulesWrongFalsely : Prop := fnValidRulesRow.holds Try.pinned (OpenSpec.ofChange fnValidRulesWrong)

/-- 'laws.FnValidFields': WHATEVER THE INPUT: true; the input reads as it did. -/
def fnValidFieldsSpec : ChangeSpec := { name := "fnValidFields", fn := fun _ => fun
  | [d] => { results := [.lit (.bool true)], args := [d] }
  | _ => none }
def fnValidFieldsRow : OpenClaim := { program := "ytecfdooibejemaa", sum := "9f5a594b7dee75ab31ce8179b4efa09cd44269d646aa649d8c4f23144d9cf7e1", func := "loop.example/loggertree/laws.FnValidFields", spec := "fnValidFields", unfollowed := true, recurses := true, apart := false }
def FnValidFieldsSaid : Prop := fnValidFieldsRow.holds Try.pinned (OpenSpec.ofChange fnValidFieldsSpec)

/-- ITS FALSE NEIGHBOUR: 'it returns false'. Refute it at one input. -/
def fnValidFieldsWrong : ChangeSpec := { name := "fnValidFields", fn := fun _ => fun
  | [d] => { results := [.lit (.bool false)], args := [d] }
  | _ => none }
def FnValidFieldsWrongFalsely : Prop := fnValidFieldsRow.holds Try.pinned (OpenSpec.ofChange fnValidFieldsWrong)

/- THE SECOND FORM. 'bulk': how many values and letters a reading holds, each counted each time it is reached (what is shared counts as often as it is met; a slice's spare places count too). A statement '..UptoSaid' is the law's where the arguments, and the package variables that the reading takes, are together of bulk at most 1048576: NARROWER than '..Said'. Prove '..Said' where nothing that the law and all that it calls make is longer than what came in: it says more and counts as full. Else prove '..UptoSaid'. A law counts once. -/
mutual
def uptoBulk {H : Type} : DataW H → Nat
  | .lit (.string bytes) => bytes.length + 1
  | .lit _ => 1
  | .nil => 1
  | .ptr d => uptoBulk d + 1
  | .slice elems spare => uptoBulkAll elems + uptoBulkAll spare + 1
  | .agg parts => uptoBulkAll parts + 1
  | .iface _ d => uptoBulk d + 1
  | .map entries => uptoBulkEntries entries + 1
  | .held _ => 1
def uptoBulkAll {H : Type} : List (DataW H) → Nat
  | [] => 0
  | d :: r => uptoBulk d + uptoBulkAll r
def uptoBulkEntries {H : Type} : List (Lit × DataW H) → Nat
  | [] => 0
  | x :: r => uptoBulkEntry x + uptoBulkEntries r
def uptoBulkEntry {H : Type} : Lit × DataW H → Nat
  | (.string bytes, d) => bytes.length + uptoBulk d + 1
  | (_, d) => uptoBulk d + 1
 end
def uptoSmall : (H : Type) → List (DataW H) → Bool := fun _ ds => decide (uptoBulkAll ds ≤ 1048576)
def OpenSpec.upto (s : _root_.Go.ChangeSpec) : _root_.Go.OpenSpec := { _root_.Go.OpenSpec.ofChange s with cond := some uptoSmall }

/-- 'laws.FnExactValidRules', WHERE WHAT IT READS IS OF BULK AT MOST 1048576: true; the input reads as it did. -/
def fnExactValidRulesUptoRow : OpenClaim := { program := "ytecfdooibejemaa", sum := "9f5a594b7dee75ab31ce8179b4efa09cd44269d646aa649d8c4f23144d9cf7e1", func := "loop.example/loggertree/laws.FnExactValidRules", spec := "fnExactValidRules", apart := false, narrowed := true }
def FnExactValidRulesUptoSaid : Prop := fnExactValidRulesUptoRow.holds Try.pinned (OpenSpec.upto fnExactValidRulesSpec)

/-- 'laws.FnExactValidWarnings', WHERE WHAT IT READS IS OF BULK AT MOST 1048576: true; the input reads as it did. -/
def fnExactValidWarningsUptoRow : OpenClaim := { program := "ytecfdooibejemaa", sum := "9f5a594b7dee75ab31ce8179b4efa09cd44269d646aa649d8c4f23144d9cf7e1", func := "loop.example/loggertree/laws.FnExactValidWarnings", spec := "fnExactValidWarnings", apart := false, narrowed := true }
def FnExactValidWarningsUptoSaid : Prop := fnExactValidWarningsUptoRow.holds Try.pinned (OpenSpec.upto fnExactValidWarningsSpec)

/-- 'laws.FnExactValidFields', WHERE WHAT IT READS IS OF BULK AT MOST 1048576: true; the input reads as it did. -/
def fnExactValidFieldsUptoRow : OpenClaim := { program := "ytecfdooibejemaa", sum := "9f5a594b7dee75ab31ce8179b4efa09cd44269d646aa649d8c4f23144d9cf7e1", func := "loop.example/loggertree/laws.FnExactValidFields", spec := "fnExactValidFields", unfollowed := true, recurses := true, apart := false, narrowed := true }
def FnExactValidFieldsUptoSaid : Prop := fnExactValidFieldsUptoRow.holds Try.pinned (OpenSpec.upto fnExactValidFieldsSpec)

/-- 'laws.FnExactDropCovered', WHERE WHAT IT READS IS OF BULK AT MOST 1048576: true; the input reads as it did. -/
def fnExactDropCoveredUptoRow : OpenClaim := { program := "ytecfdooibejemaa", sum := "9f5a594b7dee75ab31ce8179b4efa09cd44269d646aa649d8c4f23144d9cf7e1", func := "loop.example/loggertree/laws.FnExactDropCovered", spec := "fnExactDropCovered", unfollowed := true, recurses := true, apart := false, narrowed := true }
def FnExactDropCoveredUptoSaid : Prop := fnExactDropCoveredUptoRow.holds Try.pinned (OpenSpec.upto fnExactDropCoveredSpec)

/-- 'laws.FnExactAddRule', WHERE WHAT IT READS IS OF BULK AT MOST 1048576: true; the input reads as it did. -/
def fnExactAddRuleUptoRow : OpenClaim := { program := "ytecfdooibejemaa", sum := "9f5a594b7dee75ab31ce8179b4efa09cd44269d646aa649d8c4f23144d9cf7e1", func := "loop.example/loggertree/laws.FnExactAddRule", spec := "fnExactAddRule", inPlace := ["slices.overlaps[loop.example/loggertree/impl.Rule]"], unfollowed := true, recurses := true, apart := false, narrowed := true }
def FnExactAddRuleUptoSaid : Prop := fnExactAddRuleUptoRow.holds Try.pinned (OpenSpec.upto fnExactAddRuleSpec)

/-- 'laws.FnValidRules', WHERE WHAT IT READS IS OF BULK AT MOST 1048576: true; the input reads as it did. -/
def fnValidRulesUptoRow : OpenClaim := { program := "ytecfdooibejemaa", sum := "9f5a594b7dee75ab31ce8179b4efa09cd44269d646aa649d8c4f23144d9cf7e1", func := "loop.example/loggertree/laws.FnValidRules", spec := "fnValidRules", apart := false, narrowed := true }
def FnValidRulesUptoSaid : Prop := fnValidRulesUptoRow.holds Try.pinned (OpenSpec.upto fnValidRulesSpec)

/-- 'laws.FnValidFields', WHERE WHAT IT READS IS OF BULK AT MOST 1048576: true; the input reads as it did. -/
def fnValidFieldsUptoRow : OpenClaim := { program := "ytecfdooibejemaa", sum := "9f5a594b7dee75ab31ce8179b4efa09cd44269d646aa649d8c4f23144d9cf7e1", func := "loop.example/loggertree/laws.FnValidFields", spec := "fnValidFields", unfollowed := true, recurses := true, apart := false, narrowed := true }
def FnValidFieldsUptoSaid : Prop := fnValidFieldsUptoRow.holds Try.pinned (OpenSpec.upto fnValidFieldsSpec)

end Rows
end Go.Proofs.Ytecfdooibejemaa
