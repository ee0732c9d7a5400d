/-
  No cell of these rows narrows 'for every input' (looked for: loops, veiled, ifaces, maps, wideKeys, modest, calm, conditions, laid).
  DERIVED. THE GIVEN ROWS OF THIS SEAT. 8 by the template 'for every input the law returns true; each argument reads behind the call as it read before'; 0 by the template 'total and deterministic' (their statements: YteammkclbgniiaaTotals.lean).
  GIVEN WITH THE SEED: the statements are not yours to turn. If you find one false, say at which input.
  Laid BY PROGRAM, IN A SANDBOX (cutbox-rows.mjs): the forced cells as the released guide's own fill.sh prints them over the translation 9af2805110c6d3b4… (all of the seat's roots in one cut). By AI agents, Wed Nov 11 2026. No macro, syntax, notation, axiom, sorry.
-/
import Derived.Test.YteammkclbgniiaaChecked
import GoSem.Claim
import GoSem.ClaimJoined
import GoSem.ClaimMapViews
import Derived.JoinedTies
import Derived.KernelRfl
namespace Go.Proofs.Yteammkclbgniiaa
/- THE CELL 'sum', in the pinned program and in every row, IS THE sha256 OF THE DUMP (.gsa) THAT YteammkclbgniiaaProg.lean LOADS. Nothing in Lean hashes anything: it is a label: what it is worth is what the hold of that sum in a sandbox is worth. -/
noncomputable def Try.pinned : Pinned := { name := "yteammkclbgniiaa", sum := "9af2805110c6d3b4c9c2f7fa3df9c44a3d119fbc5bcd924193125f158ac7a33c", checked := Try.checked }
namespace Rows
def none {H : Type} : Left H := { results := [], args := [] }

/-- 'laws.FnValidTree': WHATEVER THE INPUT: true; the input reads as it did. -/
def fnValidTreeSpec : ChangeSpec := { name := "fnValidTree", fn := fun _ => fun
  | [d] => { results := [.lit (.bool true)], args := [d] }
  | _ => none }
def fnValidTreeRow : OpenClaim := { program := "yteammkclbgniiaa", sum := "9af2805110c6d3b4c9c2f7fa3df9c44a3d119fbc5bcd924193125f158ac7a33c", func := "loop.example/loggertree/laws.FnValidTree", spec := "fnValidTree", unfollowed := true, recurses := true, apart := false }
def FnValidTreeSaid : Prop := fnValidTreeRow.holds Try.pinned (OpenSpec.ofChange fnValidTreeSpec)

/-- ITS FALSE NEIGHBOUR: 'it returns false'. Refute it at one input. -/
def fnValidTreeWrong : ChangeSpec := { name := "fnValidTree", fn := fun _ => fun
  | [d] => { results := [.lit (.bool false)], args := [d] }
  | _ => none }
def FnValidTreeWrongFalsely : Prop := fnValidTreeRow.holds Try.pinned (OpenSpec.ofChange fnValidTreeWrong)

/-- 'laws.FnLoggerAt': WHATEVER THE INPUT: true; the input reads as it did. -/
def fnLoggerAtSpec : ChangeSpec := { name := "fnLoggerAt", fn := fun _ => fun
  | [d] => { results := [.lit (.bool true)], args := [d] }
  | _ => none }
def fnLoggerAtRow : OpenClaim := { program := "yteammkclbgniiaa", sum := "9af2805110c6d3b4c9c2f7fa3df9c44a3d119fbc5bcd924193125f158ac7a33c", func := "loop.example/loggertree/laws.FnLoggerAt", spec := "fnLoggerAt", unfollowed := true, recurses := true, apart := false }
def FnLoggerAtSaid : Prop := fnLoggerAtRow.holds Try.pinned (OpenSpec.ofChange fnLoggerAtSpec)

/-- ITS FALSE NEIGHBOUR: 'it returns false'. Refute it at one input. -/
def fnLoggerAtWrong : ChangeSpec := { name := "fnLoggerAt", fn := fun _ => fun
  | [d] => { results := [.lit (.bool false)], args := [d] }
  | _ => none }
def FnLoggerAtWrongFalsely : Prop := fnLoggerAtRow.holds Try.pinned (OpenSpec.ofChange fnLoggerAtWrong)

/-- 'laws.FnNearestTo': WHATEVER THE INPUT: true; the input reads as it did. -/
def fnNearestToSpec : ChangeSpec := { name := "fnNearestTo", fn := fun _ => fun
  | [d] => { results := [.lit (.bool true)], args := [d] }
  | _ => none }
def fnNearestToRow : OpenClaim := { program := "yteammkclbgniiaa", sum := "9af2805110c6d3b4c9c2f7fa3df9c44a3d119fbc5bcd924193125f158ac7a33c", func := "loop.example/loggertree/laws.FnNearestTo", spec := "fnNearestTo", unfollowed := true, recurses := true, apart := false }
def FnNearestToSaid : Prop := fnNearestToRow.holds Try.pinned (OpenSpec.ofChange fnNearestToSpec)

/-- ITS FALSE NEIGHBOUR: 'it returns false'. Refute it at one input. -/
def fnNearestToWrong : ChangeSpec := { name := "fnNearestTo", fn := fun _ => fun
  | [d] => { results := [.lit (.bool false)], args := [d] }
  | _ => none }
def FnNearestToWrongFalsely : Prop := fnNearestToRow.holds Try.pinned (OpenSpec.ofChange fnNearestToWrong)

/-- 'laws.FnPathOf': WHATEVER THE INPUT: true; the input reads as it did. -/
def fnPathOfSpec : ChangeSpec := { name := "fnPathOf", fn := fun _ => fun
  | [d] => { results := [.lit (.bool true)], args := [d] }
  | _ => none }
def fnPathOfRow : OpenClaim := { program := "yteammkclbgniiaa", sum := "9af2805110c6d3b4c9c2f7fa3df9c44a3d119fbc5bcd924193125f158ac7a33c", func := "loop.example/loggertree/laws.FnPathOf", spec := "fnPathOf", apart := false }
def FnPathOfSaid : Prop := fnPathOfRow.holds Try.pinned (OpenSpec.ofChange fnPathOfSpec)

/-- ITS FALSE NEIGHBOUR: 'it returns false'. Refute it at one input. -/
def fnPathOfWrong : ChangeSpec := { name := "fnPathOf", fn := fun _ => fun
  | [d] => { results := [.lit (.bool false)], args := [d] }
  | _ => none }
def FnPathOfWrongFalsely : Prop := fnPathOfRow.holds Try.pinned (OpenSpec.ofChange fnPathOfWrong)

/-- 'laws.FnParentOf': WHATEVER THE INPUT: true; the input reads as it did. -/
def fnParentOfSpec : ChangeSpec := { name := "fnParentOf", fn := fun _ => fun
  | [d] => { results := [.lit (.bool true)], args := [d] }
  | _ => none }
def fnParentOfRow : OpenClaim := { program := "yteammkclbgniiaa", sum := "9af2805110c6d3b4c9c2f7fa3df9c44a3d119fbc5bcd924193125f158ac7a33c", func := "loop.example/loggertree/laws.FnParentOf", spec := "fnParentOf", apart := false }
def FnParentOfSaid : Prop := fnParentOfRow.holds Try.pinned (OpenSpec.ofChange fnParentOfSpec)

/-- ITS FALSE NEIGHBOUR: 'it returns false'. Refute it at one input. -/
def fnParentOfWrong : ChangeSpec := { name := "fnParentOf", fn := fun _ => fun
  | [d] => { results := [.lit (.bool false)], args := [d] }
  | _ => none }
def FnParentOfWrongFalsely : Prop := fnParentOfRow.holds Try.pinned (OpenSpec.ofChange fnParentOfWrong)

/-- 'laws.FnChildrenOf': WHATEVER THE INPUT: true; the input reads as it did. -/
def fnChildrenOfSpec : ChangeSpec := { name := "fnChildrenOf", fn := fun _ => fun
  | [d] => { results := [.lit (.bool true)], args := [d] }
  | _ => none }
def fnChildrenOfRow : OpenClaim := { program := "yteammkclbgniiaa", sum := "9af2805110c6d3b4c9c2f7fa3df9c44a3d119fbc5bcd924193125f158ac7a33c", func := "loop.example/loggertree/laws.FnChildrenOf", spec := "fnChildrenOf", apart := false }
def FnChildrenOfSaid : Prop := fnChildrenOfRow.holds Try.pinned (OpenSpec.ofChange fnChildrenOfSpec)

/-- ITS FALSE NEIGHBOUR: 'it returns false'. Refute it at one input. -/
def fnChildrenOfWrong : ChangeSpec := { name := "fnChildrenOf", fn := fun _ => fun
  | [d] => { results := [.lit (.bool false)], args := [d] }
  | _ => none }
def FnChildrenOfWrongFalsely : Prop := fnChildrenOfRow.holds Try.pinned (OpenSpec.ofChange fnChildrenOfWrong)

/-- 'laws.FnEffectiveLevel': WHATEVER THE INPUT: true; the input reads as it did. -/
def fnEffectiveLevelSpec : ChangeSpec := { name := "fnEffectiveLevel", fn := fun _ => fun
  | [d] => { results := [.lit (.bool true)], args := [d] }
  | _ => none }
def fnEffectiveLevelRow : OpenClaim := { program := "yteammkclbgniiaa", sum := "9af2805110c6d3b4c9c2f7fa3df9c44a3d119fbc5bcd924193125f158ac7a33c", func := "loop.example/loggertree/laws.FnEffectiveLevel", spec := "fnEffectiveLevel", unfollowed := true, recurses := true, apart := false }
def FnEffectiveLevelSaid : Prop := fnEffectiveLevelRow.holds Try.pinned (OpenSpec.ofChange fnEffectiveLevelSpec)

/-- ITS FALSE NEIGHBOUR: 'it returns false'. Refute it at one input. -/
def fnEffectiveLevelWrong : ChangeSpec := { name := "fnEffectiveLevel", fn := fun _ => fun
  | [d] => { results := [.lit (.bool false)], args := [d] }
  | _ => none }
def FnEffectiveLevelWrongFalsely : Prop := fnEffectiveLevelRow.holds Try.pinned (OpenSpec.ofChange fnEffectiveLevelWrong)

/-- 'laws.FnIsEnabled': WHATEVER THE INPUT: true; the input reads as it did. -/
def fnIsEnabledSpec : ChangeSpec := { name := "fnIsEnabled", fn := fun _ => fun
  | [d] => { results := [.lit (.bool true)], args := [d] }
  | _ => none }
def fnIsEnabledRow : OpenClaim := { program := "yteammkclbgniiaa", sum := "9af2805110c6d3b4c9c2f7fa3df9c44a3d119fbc5bcd924193125f158ac7a33c", func := "loop.example/loggertree/laws.FnIsEnabled", spec := "fnIsEnabled", apart := false }
def FnIsEnabledSaid : Prop := fnIsEnabledRow.holds Try.pinned (OpenSpec.ofChange fnIsEnabledSpec)

/-- ITS FALSE NEIGHBOUR: 'it returns false'. Refute it at one input. -/
def fnIsEnabledWrong : ChangeSpec := { name := "fnIsEnabled", fn := fun _ => fun
  | [d] => { results := [.lit (.bool false)], args := [d] }
  | _ => none }
def FnIsEnabledWrongFalsely : Prop := fnIsEnabledRow.holds Try.pinned (OpenSpec.ofChange fnIsEnabledWrong)

/- THE SECOND FORM. 'bulk': how many values and letters a reading holds, each counted each time it is reached (what is shared counts as often as it is met; a slice's spare places count too). A statement '..UptoSaid' is the law's where the arguments, and the package variables that the reading takes, are together of bulk at most 1048576: NARROWER than '..Said'. Prove '..Said' where nothing that the law and all that it calls make is longer than what came in: it says more and counts as full. Else prove '..UptoSaid'. A law counts once. -/
mutual
def uptoBulk {H : Type} : DataW H → Nat
  | .lit (.string bytes) => bytes.length + 1
  | .lit _ => 1
  | .nil => 1
  | .ptr d => uptoBulk d + 1
  | .slice elems spare => uptoBulkAll elems + uptoBulkAll spare + 1
  | .agg parts => uptoBulkAll parts + 1
  | .iface _ d => uptoBulk d + 1
  | .map entries => uptoBulkEntries entries + 1
  | .held _ => 1
def uptoBulkAll {H : Type} : List (DataW H) → Nat
  | [] => 0
  | d :: r => uptoBulk d + uptoBulkAll r
def uptoBulkEntries {H : Type} : List (Lit × DataW H) → Nat
  | [] => 0
  | x :: r => uptoBulkEntry x + uptoBulkEntries r
def uptoBulkEntry {H : Type} : Lit × DataW H → Nat
  | (.string bytes, d) => bytes.length + uptoBulk d + 1
  | (_, d) => uptoBulk d + 1
 end
def uptoSmall : (H : Type) → List (DataW H) → Bool := fun _ ds => decide (uptoBulkAll ds ≤ 1048576)
def OpenSpec.upto (s : _root_.Go.ChangeSpec) : _root_.Go.OpenSpec := { _root_.Go.OpenSpec.ofChange s with cond := some uptoSmall }

/-- 'laws.FnValidTree', WHERE WHAT IT READS IS OF BULK AT MOST 1048576: true; the input reads as it did. -/
def fnValidTreeUptoRow : OpenClaim := { program := "yteammkclbgniiaa", sum := "9af2805110c6d3b4c9c2f7fa3df9c44a3d119fbc5bcd924193125f158ac7a33c", func := "loop.example/loggertree/laws.FnValidTree", spec := "fnValidTree", unfollowed := true, recurses := true, apart := false, narrowed := true }
def FnValidTreeUptoSaid : Prop := fnValidTreeUptoRow.holds Try.pinned (OpenSpec.upto fnValidTreeSpec)

/-- 'laws.FnLoggerAt', WHERE WHAT IT READS IS OF BULK AT MOST 1048576: true; the input reads as it did. -/
def fnLoggerAtUptoRow : OpenClaim := { program := "yteammkclbgniiaa", sum := "9af2805110c6d3b4c9c2f7fa3df9c44a3d119fbc5bcd924193125f158ac7a33c", func := "loop.example/loggertree/laws.FnLoggerAt", spec := "fnLoggerAt", unfollowed := true, recurses := true, apart := false, narrowed := true }
def FnLoggerAtUptoSaid : Prop := fnLoggerAtUptoRow.holds Try.pinned (OpenSpec.upto fnLoggerAtSpec)

/-- 'laws.FnNearestTo', WHERE WHAT IT READS IS OF BULK AT MOST 1048576: true; the input reads as it did. -/
def fnNearestToUptoRow : OpenClaim := { program := "yteammkclbgniiaa", sum := "9af2805110c6d3b4c9c2f7fa3df9c44a3d119fbc5bcd924193125f158ac7a33c", func := "loop.example/loggertree/laws.FnNearestTo", spec := "fnNearestTo", unfollowed := true, recurses := true, apart := false, narrowed := true }
def FnNearestToUptoSaid : Prop := fnNearestToUptoRow.holds Try.pinned (OpenSpec.upto fnNearestToSpec)

/-- 'laws.FnPathOf', WHERE WHAT IT READS IS OF BULK AT MOST 1048576: true; the input reads as it did. -/
def fnPathOfUptoRow : OpenClaim := { program := "yteammkclbgniiaa", sum := "9af2805110c6d3b4c9c2f7fa3df9c44a3d119fbc5bcd924193125f158ac7a33c", func := "loop.example/loggertree/laws.FnPathOf", spec := "fnPathOf", apart := false, narrowed := true }
def FnPathOfUptoSaid : Prop := fnPathOfUptoRow.holds Try.pinned (OpenSpec.upto fnPathOfSpec)

/-- 'laws.FnParentOf', WHERE WHAT IT READS IS OF BULK AT MOST 1048576: true; the input reads as it did. -/
def fnParentOfUptoRow : OpenClaim := { program := "yteammkclbgniiaa", sum := "9af2805110c6d3b4c9c2f7fa3df9c44a3d119fbc5bcd924193125f158ac7a33c", func := "loop.example/loggertree/laws.FnParentOf", spec := "fnParentOf", apart := false, narrowed := true }
def FnParentOfUptoSaid : Prop := fnParentOfUptoRow.holds Try.pinned (OpenSpec.upto fnParentOfSpec)

/-- 'laws.FnChildrenOf', WHERE WHAT IT READS IS OF BULK AT MOST 1048576: true; the input reads as it did. -/
def fnChildrenOfUptoRow : OpenClaim := { program := "yteammkclbgniiaa", sum := "9af2805110c6d3b4c9c2f7fa3df9c44a3d119fbc5bcd924193125f158ac7a33c", func := "loop.example/loggertree/laws.FnChildrenOf", spec := "fnChildrenOf", apart := false, narrowed := true }
def FnChildrenOfUptoSaid : Prop := fnChildrenOfUptoRow.holds Try.pinned (OpenSpec.upto fnChildrenOfSpec)

/-- 'laws.FnEffectiveLevel', WHERE WHAT IT READS IS OF BULK AT MOST 1048576: true; the input reads as it did. -/
def fnEffectiveLevelUptoRow : OpenClaim := { program := "yteammkclbgniiaa", sum := "9af2805110c6d3b4c9c2f7fa3df9c44a3d119fbc5bcd924193125f158ac7a33c", func := "loop.example/loggertree/laws.FnEffectiveLevel", spec := "fnEffectiveLevel", unfollowed := true, recurses := true, apart := false, narrowed := true }
def FnEffectiveLevelUptoSaid : Prop := fnEffectiveLevelUptoRow.holds Try.pinned (OpenSpec.upto fnEffectiveLevelSpec)

/-- 'laws.FnIsEnabled', WHERE WHAT IT READS IS OF BULK AT MOST 1048576: true; the input reads as it did. -/
def fnIsEnabledUptoRow : OpenClaim := { program := "yteammkclbgniiaa", sum := "9af2805110c6d3b4c9c2f7fa3df9c44a3d119fbc5bcd924193125f158ac7a33c", func := "loop.example/loggertree/laws.FnIsEnabled", spec := "fnIsEnabled", apart := false, narrowed := true }
def FnIsEnabledUptoSaid : Prop := fnIsEnabledUptoRow.holds Try.pinned (OpenSpec.upto fnIsEnabledSpec)

end Rows
end Go.Proofs.Yteammkclbgniiaa
