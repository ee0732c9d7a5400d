/-
  No cell of these rows narrows 'for every input' (looked for: loops, veiled, ifaces, maps, wideKeys, modest, calm, conditions, laid).
  DERIVED. THE GIVEN ROWS OF THIS SEAT. 9 by the template 'for every input the law returns true; each argument reads behind the call as it read before'; 0 by the template 'total and deterministic' (their statements: YtoiagfdhanhnkaaTotals.lean).
  GIVEN WITH THE SEED: the statements are not yours to turn. If you find one false, say at which input.
  Laid BY PROGRAM, IN A SANDBOX (cutbox-rows.mjs): the forced cells as the released guide's own fill.sh prints them over the translation 57f07223ed223f9b… (all of the seat's roots in one cut). By AI agents, Wed Nov 11 2026. No macro, syntax, notation, axiom, sorry.
-/
import Derived.Test.YtoiagfdhanhnkaaChecked
import GoSem.Claim
import GoSem.ClaimJoined
import GoSem.ClaimMapViews
import Derived.JoinedTies
import Derived.KernelRfl
namespace Go.Proofs.Ytoiagfdhanhnkaa
/- THE CELL 'sum', in the pinned program and in every row, IS THE sha256 OF THE DUMP (.gsa) THAT YtoiagfdhanhnkaaProg.lean LOADS. Nothing in Lean hashes anything: it is a label: what it is worth is what the hold of that sum in a sandbox is worth. -/
noncomputable def Try.pinned : Pinned := { name := "ytoiagfdhanhnkaa", sum := "57f07223ed223f9b521c67bc57fd682f74702500be0dd8dc694071693432acdf", checked := Try.checked }
namespace Rows
def none {H : Type} : Left H := { results := [], args := [] }

/-- 'laws.FnExactRollFiles': WHATEVER THE INPUT: true; the input reads as it did. -/
def fnExactRollFilesSpec : ChangeSpec := { name := "fnExactRollFiles", fn := fun _ => fun
  | [d] => { results := [.lit (.bool true)], args := [d] }
  | _ => none }
def fnExactRollFilesRow : OpenClaim := { program := "ytoiagfdhanhnkaa", sum := "57f07223ed223f9b521c67bc57fd682f74702500be0dd8dc694071693432acdf", func := "loop.example/loggertree/laws.FnExactRollFiles", spec := "fnExactRollFiles", apart := false }
def FnExactRollFilesSaid : Prop := fnExactRollFilesRow.holds Try.pinned (OpenSpec.ofChange fnExactRollFilesSpec)

/-- ITS FALSE NEIGHBOUR: 'it returns false'. Refute it at one input. -/
def fnExactRollFilesWrong : ChangeSpec := { name := "fnExactRollFiles", fn := fun _ => fun
  | [d] => { results := [.lit (.bool false)], args := [d] }
  | _ => none }
def FnExactRollFilesWrongFalsely : Prop := fnExactRollFilesRow.holds Try.pinned (OpenSpec.ofChange fnExactRollFilesWrong)

/-- 'laws.FnExactWriteLine': WHATEVER THE INPUT: true; the input reads as it did. -/
def fnExactWriteLineSpec : ChangeSpec := { name := "fnExactWriteLine", fn := fun _ => fun
  | [d1, d2] => { results := [.lit (.bool true)], args := [d1, d2] }
  | _ => none }
def fnExactWriteLineRow : OpenClaim := { program := "ytoiagfdhanhnkaa", sum := "57f07223ed223f9b521c67bc57fd682f74702500be0dd8dc694071693432acdf", func := "loop.example/loggertree/laws.FnExactWriteLine", spec := "fnExactWriteLine", apart := false }
def FnExactWriteLineSaid : Prop := fnExactWriteLineRow.holds Try.pinned (OpenSpec.ofChange fnExactWriteLineSpec)

/-- ITS FALSE NEIGHBOUR: 'it returns false'. Refute it at one input. -/
def fnExactWriteLineWrong : ChangeSpec := { name := "fnExactWriteLine", fn := fun _ => fun
  | [d1, d2] => { results := [.lit (.bool false)], args := [d1, d2] }
  | _ => none }
def FnExactWriteLineWrongFalsely : Prop := fnExactWriteLineRow.holds Try.pinned (OpenSpec.ofChange fnExactWriteLineWrong)

/-- 'laws.FnExactWriteLines': WHATEVER THE INPUT: true; the input reads as it did. -/
def fnExactWriteLinesSpec : ChangeSpec := { name := "fnExactWriteLines", fn := fun _ => fun
  | [d1, d2] => { results := [.lit (.bool true)], args := [d1, d2] }
  | _ => none }
def fnExactWriteLinesRow : OpenClaim := { program := "ytoiagfdhanhnkaa", sum := "57f07223ed223f9b521c67bc57fd682f74702500be0dd8dc694071693432acdf", func := "loop.example/loggertree/laws.FnExactWriteLines", spec := "fnExactWriteLines", apart := false }
def FnExactWriteLinesSaid : Prop := fnExactWriteLinesRow.holds Try.pinned (OpenSpec.ofChange fnExactWriteLinesSpec)

/-- ITS FALSE NEIGHBOUR: 'it returns false'. Refute it at one input. -/
def fnExactWriteLinesWrong : ChangeSpec := { name := "fnExactWriteLines", fn := fun _ => fun
  | [d1, d2] => { results := [.lit (.bool false)], args := [d1, d2] }
  | _ => none }
def FnExactWriteLinesWrongFalsely : Prop := fnExactWriteLinesRow.holds Try.pinned (OpenSpec.ofChange fnExactWriteLinesWrong)

/-- 'laws.FnValidFiles': WHATEVER THE INPUT: true; the input reads as it did. -/
def fnValidFilesSpec : ChangeSpec := { name := "fnValidFiles", fn := fun _ => fun
  | [d] => { results := [.lit (.bool true)], args := [d] }
  | _ => none }
def fnValidFilesRow : OpenClaim := { program := "ytoiagfdhanhnkaa", sum := "57f07223ed223f9b521c67bc57fd682f74702500be0dd8dc694071693432acdf", func := "loop.example/loggertree/laws.FnValidFiles", spec := "fnValidFiles", apart := false }
def FnValidFilesSaid : Prop := fnValidFilesRow.holds Try.pinned (OpenSpec.ofChange fnValidFilesSpec)

/-- ITS FALSE NEIGHBOUR: 'it returns false'. Refute it at one input. -/
def fnValidFilesWrong : ChangeSpec := { name := "fnValidFiles", fn := fun _ => fun
  | [d] => { results := [.lit (.bool false)], args := [d] }
  | _ => none }
def FnValidFilesWrongFalsely : Prop := fnValidFilesRow.holds Try.pinned (OpenSpec.ofChange fnValidFilesWrong)

/-- 'laws.FnAllLines': WHATEVER THE INPUT: true; the input reads as it did. -/
def fnAllLinesSpec : ChangeSpec := { name := "fnAllLines", fn := fun _ => fun
  | [d] => { results := [.lit (.bool true)], args := [d] }
  | _ => none }
def fnAllLinesRow : OpenClaim := { program := "ytoiagfdhanhnkaa", sum := "57f07223ed223f9b521c67bc57fd682f74702500be0dd8dc694071693432acdf", func := "loop.example/loggertree/laws.FnAllLines", spec := "fnAllLines", apart := false }
def FnAllLinesSaid : Prop := fnAllLinesRow.holds Try.pinned (OpenSpec.ofChange fnAllLinesSpec)

/-- ITS FALSE NEIGHBOUR: 'it returns false'. Refute it at one input. -/
def fnAllLinesWrong : ChangeSpec := { name := "fnAllLines", fn := fun _ => fun
  | [d] => { results := [.lit (.bool false)], args := [d] }
  | _ => none }
def FnAllLinesWrongFalsely : Prop := fnAllLinesRow.holds Try.pinned (OpenSpec.ofChange fnAllLinesWrong)

/-- 'laws.FnFindLine': WHATEVER THE INPUT: true; the input reads as it did. -/
def fnFindLineSpec : ChangeSpec := { name := "fnFindLine", fn := fun _ => fun
  | [d] => { results := [.lit (.bool true)], args := [d] }
  | _ => none }
def fnFindLineRow : OpenClaim := { program := "ytoiagfdhanhnkaa", sum := "57f07223ed223f9b521c67bc57fd682f74702500be0dd8dc694071693432acdf", func := "loop.example/loggertree/laws.FnFindLine", spec := "fnFindLine", apart := false }
def FnFindLineSaid : Prop := fnFindLineRow.holds Try.pinned (OpenSpec.ofChange fnFindLineSpec)

/-- ITS FALSE NEIGHBOUR: 'it returns false'. Refute it at one input. -/
def fnFindLineWrong : ChangeSpec := { name := "fnFindLine", fn := fun _ => fun
  | [d] => { results := [.lit (.bool false)], args := [d] }
  | _ => none }
def FnFindLineWrongFalsely : Prop := fnFindLineRow.holds Try.pinned (OpenSpec.ofChange fnFindLineWrong)

/-- 'laws.FnRollFiles': WHATEVER THE INPUT: true; the input reads as it did. -/
def fnRollFilesSpec : ChangeSpec := { name := "fnRollFiles", fn := fun _ => fun
  | [d] => { results := [.lit (.bool true)], args := [d] }
  | _ => none }
def fnRollFilesRow : OpenClaim := { program := "ytoiagfdhanhnkaa", sum := "57f07223ed223f9b521c67bc57fd682f74702500be0dd8dc694071693432acdf", func := "loop.example/loggertree/laws.FnRollFiles", spec := "fnRollFiles", apart := false }
def FnRollFilesSaid : Prop := fnRollFilesRow.holds Try.pinned (OpenSpec.ofChange fnRollFilesSpec)

/-- ITS FALSE NEIGHBOUR: 'it returns false'. Refute it at one input. -/
def fnRollFilesWrong : ChangeSpec := { name := "fnRollFiles", fn := fun _ => fun
  | [d] => { results := [.lit (.bool false)], args := [d] }
  | _ => none }
def FnRollFilesWrongFalsely : Prop := fnRollFilesRow.holds Try.pinned (OpenSpec.ofChange fnRollFilesWrong)

/-- 'laws.FnWriteLine': WHATEVER THE INPUT: true; the input reads as it did. -/
def fnWriteLineSpec : ChangeSpec := { name := "fnWriteLine", fn := fun _ => fun
  | [d] => { results := [.lit (.bool true)], args := [d] }
  | _ => none }
def fnWriteLineRow : OpenClaim := { program := "ytoiagfdhanhnkaa", sum := "57f07223ed223f9b521c67bc57fd682f74702500be0dd8dc694071693432acdf", func := "loop.example/loggertree/laws.FnWriteLine", spec := "fnWriteLine", apart := false }
def FnWriteLineSaid : Prop := fnWriteLineRow.holds Try.pinned (OpenSpec.ofChange fnWriteLineSpec)

/-- ITS FALSE NEIGHBOUR: 'it returns false'. Refute it at one input. -/
def fnWriteLineWrong : ChangeSpec := { name := "fnWriteLine", fn := fun _ => fun
  | [d] => { results := [.lit (.bool false)], args := [d] }
  | _ => none }
def FnWriteLineWrongFalsely : Prop := fnWriteLineRow.holds Try.pinned (OpenSpec.ofChange fnWriteLineWrong)

/-- 'laws.FnWriteLines': WHATEVER THE INPUT: true; the input reads as it did. -/
def fnWriteLinesSpec : ChangeSpec := { name := "fnWriteLines", fn := fun _ => fun
  | [d] => { results := [.lit (.bool true)], args := [d] }
  | _ => none }
def fnWriteLinesRow : OpenClaim := { program := "ytoiagfdhanhnkaa", sum := "57f07223ed223f9b521c67bc57fd682f74702500be0dd8dc694071693432acdf", func := "loop.example/loggertree/laws.FnWriteLines", spec := "fnWriteLines", apart := false }
def FnWriteLinesSaid : Prop := fnWriteLinesRow.holds Try.pinned (OpenSpec.ofChange fnWriteLinesSpec)

/-- ITS FALSE NEIGHBOUR: 'it returns false'. Refute it at one input. -/
def fnWriteLinesWrong : ChangeSpec := { name := "fnWriteLines", fn := fun _ => fun
  | [d] => { results := [.lit (.bool false)], args := [d] }
  | _ => none }
def FnWriteLinesWrongFalsely : Prop := fnWriteLinesRow.holds Try.pinned (OpenSpec.ofChange fnWriteLinesWrong)

/- THE SECOND FORM. 'bulk': how many values and letters a reading holds, each counted each time it is reached (what is shared counts as often as it is met; a slice's spare places count too). A statement '..UptoSaid' is the law's where the arguments, and the package variables that the reading takes, are together of bulk at most 1048576: NARROWER than '..Said'. Prove '..Said' where nothing that the law and all that it calls make is longer than what came in: it says more and counts as full. Else prove '..UptoSaid'. A law counts once. -/
mutual
def uptoBulk {H : Type} : DataW H → Nat
  | .lit (.string bytes) => bytes.length + 1
  | .lit _ => 1
  | .nil => 1
  | .ptr d => uptoBulk d + 1
  | .slice elems spare => uptoBulkAll elems + uptoBulkAll spare + 1
  | .agg parts => uptoBulkAll parts + 1
  | .iface _ d => uptoBulk d + 1
  | .map entries => uptoBulkEntries entries + 1
  | .held _ => 1
def uptoBulkAll {H : Type} : List (DataW H) → Nat
  | [] => 0
  | d :: r => uptoBulk d + uptoBulkAll r
def uptoBulkEntries {H : Type} : List (Lit × DataW H) → Nat
  | [] => 0
  | x :: r => uptoBulkEntry x + uptoBulkEntries r
def uptoBulkEntry {H : Type} : Lit × DataW H → Nat
  | (.string bytes, d) => bytes.length + uptoBulk d + 1
  | (_, d) => uptoBulk d + 1
 end
def uptoSmall : (H : Type) → List (DataW H) → Bool := fun _ ds => decide (uptoBulkAll ds ≤ 1048576)
def OpenSpec.upto (s : _root_.Go.ChangeSpec) : _root_.Go.OpenSpec := { _root_.Go.OpenSpec.ofChange s with cond := some uptoSmall }

/-- 'laws.FnExactRollFiles', WHERE WHAT IT READS IS OF BULK AT MOST 1048576: true; the input reads as it did. -/
def fnExactRollFilesUptoRow : OpenClaim := { program := "ytoiagfdhanhnkaa", sum := "57f07223ed223f9b521c67bc57fd682f74702500be0dd8dc694071693432acdf", func := "loop.example/loggertree/laws.FnExactRollFiles", spec := "fnExactRollFiles", apart := false, narrowed := true }
def FnExactRollFilesUptoSaid : Prop := fnExactRollFilesUptoRow.holds Try.pinned (OpenSpec.upto fnExactRollFilesSpec)

/-- 'laws.FnExactWriteLine', WHERE WHAT IT READS IS OF BULK AT MOST 1048576: true; the input reads as it did. -/
def fnExactWriteLineUptoRow : OpenClaim := { program := "ytoiagfdhanhnkaa", sum := "57f07223ed223f9b521c67bc57fd682f74702500be0dd8dc694071693432acdf", func := "loop.example/loggertree/laws.FnExactWriteLine", spec := "fnExactWriteLine", apart := false, narrowed := true }
def FnExactWriteLineUptoSaid : Prop := fnExactWriteLineUptoRow.holds Try.pinned (OpenSpec.upto fnExactWriteLineSpec)

/-- 'laws.FnExactWriteLines', WHERE WHAT IT READS IS OF BULK AT MOST 1048576: true; the input reads as it did. -/
def fnExactWriteLinesUptoRow : OpenClaim := { program := "ytoiagfdhanhnkaa", sum := "57f07223ed223f9b521c67bc57fd682f74702500be0dd8dc694071693432acdf", func := "loop.example/loggertree/laws.FnExactWriteLines", spec := "fnExactWriteLines", apart := false, narrowed := true }
def FnExactWriteLinesUptoSaid : Prop := fnExactWriteLinesUptoRow.holds Try.pinned (OpenSpec.upto fnExactWriteLinesSpec)

/-- 'laws.FnValidFiles', WHERE WHAT IT READS IS OF BULK AT MOST 1048576: true; the input reads as it did. -/
def fnValidFilesUptoRow : OpenClaim := { program := "ytoiagfdhanhnkaa", sum := "57f07223ed223f9b521c67bc57fd682f74702500be0dd8dc694071693432acdf", func := "loop.example/loggertree/laws.FnValidFiles", spec := "fnValidFiles", apart := false, narrowed := true }
def FnValidFilesUptoSaid : Prop := fnValidFilesUptoRow.holds Try.pinned (OpenSpec.upto fnValidFilesSpec)

/-- 'laws.FnAllLines', WHERE WHAT IT READS IS OF BULK AT MOST 1048576: true; the input reads as it did. -/
def fnAllLinesUptoRow : OpenClaim := { program := "ytoiagfdhanhnkaa", sum := "57f07223ed223f9b521c67bc57fd682f74702500be0dd8dc694071693432acdf", func := "loop.example/loggertree/laws.FnAllLines", spec := "fnAllLines", apart := false, narrowed := true }
def FnAllLinesUptoSaid : Prop := fnAllLinesUptoRow.holds Try.pinned (OpenSpec.upto fnAllLinesSpec)

/-- 'laws.FnFindLine', WHERE WHAT IT READS IS OF BULK AT MOST 1048576: true; the input reads as it did. -/
def fnFindLineUptoRow : OpenClaim := { program := "ytoiagfdhanhnkaa", sum := "57f07223ed223f9b521c67bc57fd682f74702500be0dd8dc694071693432acdf", func := "loop.example/loggertree/laws.FnFindLine", spec := "fnFindLine", apart := false, narrowed := true }
def FnFindLineUptoSaid : Prop := fnFindLineUptoRow.holds Try.pinned (OpenSpec.upto fnFindLineSpec)

/-- 'laws.FnRollFiles', WHERE WHAT IT READS IS OF BULK AT MOST 1048576: true; the input reads as it did. -/
def fnRollFilesUptoRow : OpenClaim := { program := "ytoiagfdhanhnkaa", sum := "57f07223ed223f9b521c67bc57fd682f74702500be0dd8dc694071693432acdf", func := "loop.example/loggertree/laws.FnRollFiles", spec := "fnRollFiles", apart := false, narrowed := true }
def FnRollFilesUptoSaid : Prop := fnRollFilesUptoRow.holds Try.pinned (OpenSpec.upto fnRollFilesSpec)

/-- 'laws.FnWriteLine', WHERE WHAT IT READS IS OF BULK AT MOST 1048576: true; the input reads as it did. -/
def fnWriteLineUptoRow : OpenClaim := { program := "ytoiagfdhanhnkaa", sum := "57f07223ed223f9b521c67bc57fd682f74702500be0dd8dc694071693432acdf", func := "loop.example/loggertree/laws.FnWriteLine", spec := "fnWriteLine", apart := false, narrowed := true }
def FnWriteLineUptoSaid : Prop := fnWriteLineUptoRow.holds Try.pinned (OpenSpec.upto fnWriteLineSpec)

/-- 'laws.FnWriteLines', WHERE WHAT IT READS IS OF BULK AT MOST 1048576: true; the input reads as it did. -/
def fnWriteLinesUptoRow : OpenClaim := { program := "ytoiagfdhanhnkaa", sum := "57f07223ed223f9b521c67bc57fd682f74702500be0dd8dc694071693432acdf", func := "loop.example/loggertree/laws.FnWriteLines", spec := "fnWriteLines", apart := false, narrowed := true }
def FnWriteLinesUptoSaid : Prop := fnWriteLinesUptoRow.holds Try.pinned (OpenSpec.upto fnWriteLinesSpec)

end Rows
end Go.Proofs.Ytoiagfdhanhnkaa
