/-
  No cell of these rows narrows 'for every input' (looked for: loops, veiled, ifaces, maps, wideKeys, modest, calm, conditions, laid).
  DERIVED. THE GIVEN ROWS OF THIS SEAT. 4 by the template 'for every input the law returns true; each argument reads behind the call as it read before'; 0 by the template 'total and deterministic' (their statements: YtokehghaoafcgaaTotals.lean).
  GIVEN WITH THE SEED: the statements are not yours to turn. If you find one false, say at which input.
  Laid BY PROGRAM, IN A SANDBOX (cutbox-rows.mjs): the forced cells as the released guide's own fill.sh prints them over the translation 07b1c0f814a03c79… (all of the seat's roots in one cut). By AI agents, Wed Nov 11 2026. No macro, syntax, notation, axiom, sorry.
-/
import Derived.Test.YtokehghaoafcgaaChecked
import GoSem.Claim
import GoSem.ClaimJoined
import GoSem.ClaimMapViews
import Derived.JoinedTies
import Derived.KernelRfl
namespace Go.Proofs.Ytokehghaoafcgaa
/- THE CELL 'sum', in the pinned program and in every row, IS THE sha256 OF THE DUMP (.gsa) THAT YtokehghaoafcgaaProg.lean LOADS. Nothing in Lean hashes anything: it is a label: what it is worth is what the hold of that sum in a sandbox is worth. -/
noncomputable def Try.pinned : Pinned := { name := "ytokehghaoafcgaa", sum := "07b1c0f814a03c79127d49f7832520354870b7a3b3abe3fad39b3a3c005faf42", checked := Try.checked }
namespace Rows
def none {H : Type} : Left H := { results := [], args := [] }

/-- 'laws.FnSizeOf': WHATEVER THE INPUT: true; the input reads as it did. -/
def fnSizeOfSpec : ChangeSpec := { name := "fnSizeOf", fn := fun _ => fun
  | [d] => { results := [.lit (.bool true)], args := [d] }
  | _ => none }
def fnSizeOfRow : OpenClaim := { program := "ytokehghaoafcgaa", sum := "07b1c0f814a03c79127d49f7832520354870b7a3b3abe3fad39b3a3c005faf42", func := "loop.example/loggertree/laws.FnSizeOf", spec := "fnSizeOf", apart := false }
def FnSizeOfSaid : Prop := fnSizeOfRow.holds Try.pinned (OpenSpec.ofChange fnSizeOfSpec)

/-- ITS FALSE NEIGHBOUR: 'it returns false'. Refute it at one input. -/
def fnSizeOfWrong : ChangeSpec := { name := "fnSizeOf", fn := fun _ => fun
  | [d] => { results := [.lit (.bool false)], args := [d] }
  | _ => none }
def FnSizeOfWrongFalsely : Prop := fnSizeOfRow.holds Try.pinned (OpenSpec.ofChange fnSizeOfWrong)

/-- 'laws.FnAllLines': WHATEVER THE INPUT: true; the input reads as it did. -/
def fnAllLinesSpec : ChangeSpec := { name := "fnAllLines", fn := fun _ => fun
  | [d] => { results := [.lit (.bool true)], args := [d] }
  | _ => none }
def fnAllLinesRow : OpenClaim := { program := "ytokehghaoafcgaa", sum := "07b1c0f814a03c79127d49f7832520354870b7a3b3abe3fad39b3a3c005faf42", func := "loop.example/loggertree/laws.FnAllLines", spec := "fnAllLines", apart := false }
def FnAllLinesSaid : Prop := fnAllLinesRow.holds Try.pinned (OpenSpec.ofChange fnAllLinesSpec)

/-- ITS FALSE NEIGHBOUR: 'it returns false'. Refute it at one input. -/
def fnAllLinesWrong : ChangeSpec := { name := "fnAllLines", fn := fun _ => fun
  | [d] => { results := [.lit (.bool false)], args := [d] }
  | _ => none }
def FnAllLinesWrongFalsely : Prop := fnAllLinesRow.holds Try.pinned (OpenSpec.ofChange fnAllLinesWrong)

/-- 'laws.FnFindLine': WHATEVER THE INPUT: true; the input reads as it did. -/
def fnFindLineSpec : ChangeSpec := { name := "fnFindLine", fn := fun _ => fun
  | [d] => { results := [.lit (.bool true)], args := [d] }
  | _ => none }
def fnFindLineRow : OpenClaim := { program := "ytokehghaoafcgaa", sum := "07b1c0f814a03c79127d49f7832520354870b7a3b3abe3fad39b3a3c005faf42", func := "loop.example/loggertree/laws.FnFindLine", spec := "fnFindLine", apart := false }
def FnFindLineSaid : Prop := fnFindLineRow.holds Try.pinned (OpenSpec.ofChange fnFindLineSpec)

/-- ITS FALSE NEIGHBOUR: 'it returns false'. Refute it at one input. -/
def fnFindLineWrong : ChangeSpec := { name := "fnFindLine", fn := fun _ => fun
  | [d] => { results := [.lit (.bool false)], args := [d] }
  | _ => none }
def FnFindLineWrongFalsely : Prop := fnFindLineRow.holds Try.pinned (OpenSpec.ofChange fnFindLineWrong)

/-- 'laws.FnValidFiles': WHATEVER THE INPUT: true; the input reads as it did. -/
def fnValidFilesSpec : ChangeSpec := { name := "fnValidFiles", fn := fun _ => fun
  | [d] => { results := [.lit (.bool true)], args := [d] }
  | _ => none }
def fnValidFilesRow : OpenClaim := { program := "ytokehghaoafcgaa", sum := "07b1c0f814a03c79127d49f7832520354870b7a3b3abe3fad39b3a3c005faf42", func := "loop.example/loggertree/laws.FnValidFiles", spec := "fnValidFiles", apart := false }
def FnValidFilesSaid : Prop := fnValidFilesRow.holds Try.pinned (OpenSpec.ofChange fnValidFilesSpec)

/-- ITS FALSE NEIGHBOUR: 'it returns false'. Refute it at one input. -/
def fnValidFilesWrong : ChangeSpec := { name := "fnValidFiles", fn := fun _ => fun
  | [d] => { results := [.lit (.bool false)], args := [d] }
  | _ => none }
def FnValidFilesWrongFalsely : Prop := fnValidFilesRow.holds Try.pinned (OpenSpec.ofChange fnValidFilesWrong)

/- THE SECOND FORM. 'bulk': how many values and letters a reading holds, each counted each time it is reached (what is shared counts as often as it is met; a slice's spare places count too). A statement '..UptoSaid' is the law's where the arguments, and the package variables that the reading takes, are together of bulk at most 1048576: NARROWER than '..Said'. Prove '..Said' where nothing that the law and all that it calls make is longer than what came in: it says more and counts as full. Else prove '..UptoSaid'. A law counts once. -/
mutual
def uptoBulk {H : Type} : DataW H → Nat
  | .lit (.string bytes) => bytes.length + 1
  | .lit _ => 1
  | .nil => 1
  | .ptr d => uptoBulk d + 1
  | .slice elems spare => uptoBulkAll elems + uptoBulkAll spare + 1
  | .agg parts => uptoBulkAll parts + 1
  | .iface _ d => uptoBulk d + 1
  | .map entries => uptoBulkEntries entries + 1
  | .held _ => 1
def uptoBulkAll {H : Type} : List (DataW H) → Nat
  | [] => 0
  | d :: r => uptoBulk d + uptoBulkAll r
def uptoBulkEntries {H : Type} : List (Lit × DataW H) → Nat
  | [] => 0
  | x :: r => uptoBulkEntry x + uptoBulkEntries r
def uptoBulkEntry {H : Type} : Lit × DataW H → Nat
  | (.string bytes, d) => bytes.length + uptoBulk d + 1
  | (_, d) => uptoBulk d + 1
 end
def uptoSmall : (H : Type) → List (DataW H) → Bool := fun _ ds => decide (uptoBulkAll ds ≤ 1048576)
def OpenSpec.upto (s : _root_.Go.ChangeSpec) : _root_.Go.OpenSpec := { _root_.Go.OpenSpec.ofChange s with cond := some uptoSmall }

/-- 'laws.FnSizeOf', WHERE WHAT IT READS IS OF BULK AT MOST 1048576: true; the input reads as it did. -/
def fnSizeOfUptoRow : OpenClaim := { program := "ytokehghaoafcgaa", sum := "07b1c0f814a03c79127d49f7832520354870b7a3b3abe3fad39b3a3c005faf42", func := "loop.example/loggertree/laws.FnSizeOf", spec := "fnSizeOf", apart := false, narrowed := true }
def FnSizeOfUptoSaid : Prop := fnSizeOfUptoRow.holds Try.pinned (OpenSpec.upto fnSizeOfSpec)

/-- 'laws.FnAllLines', WHERE WHAT IT READS IS OF BULK AT MOST 1048576: true; the input reads as it did. -/
def fnAllLinesUptoRow : OpenClaim := { program := "ytokehghaoafcgaa", sum := "07b1c0f814a03c79127d49f7832520354870b7a3b3abe3fad39b3a3c005faf42", func := "loop.example/loggertree/laws.FnAllLines", spec := "fnAllLines", apart := false, narrowed := true }
def FnAllLinesUptoSaid : Prop := fnAllLinesUptoRow.holds Try.pinned (OpenSpec.upto fnAllLinesSpec)

/-- 'laws.FnFindLine', WHERE WHAT IT READS IS OF BULK AT MOST 1048576: true; the input reads as it did. -/
def fnFindLineUptoRow : OpenClaim := { program := "ytokehghaoafcgaa", sum := "07b1c0f814a03c79127d49f7832520354870b7a3b3abe3fad39b3a3c005faf42", func := "loop.example/loggertree/laws.FnFindLine", spec := "fnFindLine", apart := false, narrowed := true }
def FnFindLineUptoSaid : Prop := fnFindLineUptoRow.holds Try.pinned (OpenSpec.upto fnFindLineSpec)

/-- 'laws.FnValidFiles', WHERE WHAT IT READS IS OF BULK AT MOST 1048576: true; the input reads as it did. -/
def fnValidFilesUptoRow : OpenClaim := { program := "ytokehghaoafcgaa", sum := "07b1c0f814a03c79127d49f7832520354870b7a3b3abe3fad39b3a3c005faf42", func := "loop.example/loggertree/laws.FnValidFiles", spec := "fnValidFiles", apart := false, narrowed := true }
def FnValidFilesUptoSaid : Prop := fnValidFilesUptoRow.holds Try.pinned (OpenSpec.upto fnValidFilesSpec)

end Rows
end Go.Proofs.Ytokehghaoafcgaa
