/-
  No cell of these rows narrows 'for every input' (looked for: loops, veiled, ifaces, maps, wideKeys, modest, calm, conditions, laid).
  DERIVED. THE GIVEN ROWS OF THIS SEAT. 9 by the template 'for every input the law returns true; each argument reads behind the call as it read before'; 0 by the template 'total and deterministic' (their statements: YtjliipnjifongaaTotals.lean).
  GIVEN WITH THE SEED: the statements are not yours to turn. If you find one false, say at which input.
  Laid BY PROGRAM, IN A SANDBOX (cutbox-rows.mjs): the forced cells as the released guide's own fill.sh prints them over the translation a76d71a0b7a49de4… (all of the seat's roots in one cut). By AI agents, Wed Nov 11 2026. No macro, syntax, notation, axiom, sorry.
-/
import Derived.Test.YtjliipnjifongaaChecked
import GoSem.Claim
import GoSem.ClaimJoined
import GoSem.ClaimMapViews
import Derived.JoinedTies
import Derived.KernelRfl
namespace Go.Proofs.Ytjliipnjifongaa
/- THE CELL 'sum', in the pinned program and in every row, IS THE sha256 OF THE DUMP (.gsa) THAT YtjliipnjifongaaProg.lean LOADS. Nothing in Lean hashes anything: it is a label: what it is worth is what the hold of that sum in a sandbox is worth. -/
noncomputable def Try.pinned : Pinned := { name := "ytjliipnjifongaa", sum := "a76d71a0b7a49de4a1fddfb601c5a284de9e112afa6789681dbad30ffdfe17fe", checked := Try.checked }
namespace Rows
def none {H : Type} : Left H := { results := [], args := [] }

/-- 'laws.FnRecordsOf': WHATEVER THE INPUT: true; the input reads as it did. -/
def fnRecordsOfSpec : ChangeSpec := { name := "fnRecordsOf", fn := fun _ => fun
  | [d] => { results := [.lit (.bool true)], args := [d] }
  | _ => none }
def fnRecordsOfRow : OpenClaim := { program := "ytjliipnjifongaa", sum := "a76d71a0b7a49de4a1fddfb601c5a284de9e112afa6789681dbad30ffdfe17fe", func := "loop.example/loggertree/laws.FnRecordsOf", spec := "fnRecordsOf", apart := false }
def FnRecordsOfSaid : Prop := fnRecordsOfRow.holds Try.pinned (OpenSpec.ofChange fnRecordsOfSpec)

/-- ITS FALSE NEIGHBOUR: 'it returns false'. Refute it at one input. -/
def fnRecordsOfWrong : ChangeSpec := { name := "fnRecordsOf", fn := fun _ => fun
  | [d] => { results := [.lit (.bool false)], args := [d] }
  | _ => none }
def FnRecordsOfWrongFalsely : Prop := fnRecordsOfRow.holds Try.pinned (OpenSpec.ofChange fnRecordsOfWrong)

/-- 'laws.FnSampleRecords': WHATEVER THE INPUT: true; the input reads as it did. -/
def fnSampleRecordsSpec : ChangeSpec := { name := "fnSampleRecords", fn := fun _ => fun
  | [d] => { results := [.lit (.bool true)], args := [d] }
  | _ => none }
def fnSampleRecordsRow : OpenClaim := { program := "ytjliipnjifongaa", sum := "a76d71a0b7a49de4a1fddfb601c5a284de9e112afa6789681dbad30ffdfe17fe", func := "loop.example/loggertree/laws.FnSampleRecords", spec := "fnSampleRecords", apart := false }
def FnSampleRecordsSaid : Prop := fnSampleRecordsRow.holds Try.pinned (OpenSpec.ofChange fnSampleRecordsSpec)

/-- ITS FALSE NEIGHBOUR: 'it returns false'. Refute it at one input. -/
def fnSampleRecordsWrong : ChangeSpec := { name := "fnSampleRecords", fn := fun _ => fun
  | [d] => { results := [.lit (.bool false)], args := [d] }
  | _ => none }
def FnSampleRecordsWrongFalsely : Prop := fnSampleRecordsRow.holds Try.pinned (OpenSpec.ofChange fnSampleRecordsWrong)

/-- 'laws.FnMergeRecords': WHATEVER THE INPUT: true; the input reads as it did. -/
def fnMergeRecordsSpec : ChangeSpec := { name := "fnMergeRecords", fn := fun _ => fun
  | [d] => { results := [.lit (.bool true)], args := [d] }
  | _ => none }
def fnMergeRecordsRow : OpenClaim := { program := "ytjliipnjifongaa", sum := "a76d71a0b7a49de4a1fddfb601c5a284de9e112afa6789681dbad30ffdfe17fe", func := "loop.example/loggertree/laws.FnMergeRecords", spec := "fnMergeRecords", apart := false }
def FnMergeRecordsSaid : Prop := fnMergeRecordsRow.holds Try.pinned (OpenSpec.ofChange fnMergeRecordsSpec)

/-- ITS FALSE NEIGHBOUR: 'it returns false'. Refute it at one input. -/
def fnMergeRecordsWrong : ChangeSpec := { name := "fnMergeRecords", fn := fun _ => fun
  | [d] => { results := [.lit (.bool false)], args := [d] }
  | _ => none }
def FnMergeRecordsWrongFalsely : Prop := fnMergeRecordsRow.holds Try.pinned (OpenSpec.ofChange fnMergeRecordsWrong)

/-- 'laws.FnExactValidDays': WHATEVER THE INPUT: true; the input reads as it did. -/
def fnExactValidDaysSpec : ChangeSpec := { name := "fnExactValidDays", fn := fun _ => fun
  | [d] => { results := [.lit (.bool true)], args := [d] }
  | _ => none }
def fnExactValidDaysRow : OpenClaim := { program := "ytjliipnjifongaa", sum := "a76d71a0b7a49de4a1fddfb601c5a284de9e112afa6789681dbad30ffdfe17fe", func := "loop.example/loggertree/laws.FnExactValidDays", spec := "fnExactValidDays", apart := false }
def FnExactValidDaysSaid : Prop := fnExactValidDaysRow.holds Try.pinned (OpenSpec.ofChange fnExactValidDaysSpec)

/-- ITS FALSE NEIGHBOUR: 'it returns false'. Refute it at one input. -/
def fnExactValidDaysWrong : ChangeSpec := { name := "fnExactValidDays", fn := fun _ => fun
  | [d] => { results := [.lit (.bool false)], args := [d] }
  | _ => none }
def FnExactValidDaysWrongFalsely : Prop := fnExactValidDaysRow.holds Try.pinned (OpenSpec.ofChange fnExactValidDaysWrong)

/-- 'laws.FnExactWriteDay': WHATEVER THE INPUT: true; the input reads as it did. -/
def fnExactWriteDaySpec : ChangeSpec := { name := "fnExactWriteDay", fn := fun _ => fun
  | [d1, d2, d3, d4] => { results := [.lit (.bool true)], args := [d1, d2, d3, d4] }
  | _ => none }
def fnExactWriteDayRow : OpenClaim := { program := "ytjliipnjifongaa", sum := "a76d71a0b7a49de4a1fddfb601c5a284de9e112afa6789681dbad30ffdfe17fe", func := "loop.example/loggertree/laws.FnExactWriteDay", spec := "fnExactWriteDay", apart := false }
def FnExactWriteDaySaid : Prop := fnExactWriteDayRow.holds Try.pinned (OpenSpec.ofChange fnExactWriteDaySpec)

/-- ITS FALSE NEIGHBOUR: 'it returns false'. Refute it at one input. -/
def fnExactWriteDayWrong : ChangeSpec := { name := "fnExactWriteDay", fn := fun _ => fun
  | [d1, d2, d3, d4] => { results := [.lit (.bool false)], args := [d1, d2, d3, d4] }
  | _ => none }
def FnExactWriteDayWrongFalsely : Prop := fnExactWriteDayRow.holds Try.pinned (OpenSpec.ofChange fnExactWriteDayWrong)

/-- 'laws.FnExactRollFiles': WHATEVER THE INPUT: true; the input reads as it did. -/
def fnExactRollFilesSpec : ChangeSpec := { name := "fnExactRollFiles", fn := fun _ => fun
  | [d] => { results := [.lit (.bool true)], args := [d] }
  | _ => none }
def fnExactRollFilesRow : OpenClaim := { program := "ytjliipnjifongaa", sum := "a76d71a0b7a49de4a1fddfb601c5a284de9e112afa6789681dbad30ffdfe17fe", func := "loop.example/loggertree/laws.FnExactRollFiles", spec := "fnExactRollFiles", apart := false }
def FnExactRollFilesSaid : Prop := fnExactRollFilesRow.holds Try.pinned (OpenSpec.ofChange fnExactRollFilesSpec)

/-- ITS FALSE NEIGHBOUR: 'it returns false'. Refute it at one input. -/
def fnExactRollFilesWrong : ChangeSpec := { name := "fnExactRollFiles", fn := fun _ => fun
  | [d] => { results := [.lit (.bool false)], args := [d] }
  | _ => none }
def FnExactRollFilesWrongFalsely : Prop := fnExactRollFilesRow.holds Try.pinned (OpenSpec.ofChange fnExactRollFilesWrong)

/-- 'laws.FnExactWriteLine': WHATEVER THE INPUT: true; the input reads as it did. -/
def fnExactWriteLineSpec : ChangeSpec := { name := "fnExactWriteLine", fn := fun _ => fun
  | [d1, d2] => { results := [.lit (.bool true)], args := [d1, d2] }
  | _ => none }
def fnExactWriteLineRow : OpenClaim := { program := "ytjliipnjifongaa", sum := "a76d71a0b7a49de4a1fddfb601c5a284de9e112afa6789681dbad30ffdfe17fe", func := "loop.example/loggertree/laws.FnExactWriteLine", spec := "fnExactWriteLine", apart := false }
def FnExactWriteLineSaid : Prop := fnExactWriteLineRow.holds Try.pinned (OpenSpec.ofChange fnExactWriteLineSpec)

/-- ITS FALSE NEIGHBOUR: 'it returns false'. Refute it at one input. -/
def fnExactWriteLineWrong : ChangeSpec := { name := "fnExactWriteLine", fn := fun _ => fun
  | [d1, d2] => { results := [.lit (.bool false)], args := [d1, d2] }
  | _ => none }
def FnExactWriteLineWrongFalsely : Prop := fnExactWriteLineRow.holds Try.pinned (OpenSpec.ofChange fnExactWriteLineWrong)

/-- 'laws.FnExactWriteLines': WHATEVER THE INPUT: true; the input reads as it did. -/
def fnExactWriteLinesSpec : ChangeSpec := { name := "fnExactWriteLines", fn := fun _ => fun
  | [d1, d2] => { results := [.lit (.bool true)], args := [d1, d2] }
  | _ => none }
def fnExactWriteLinesRow : OpenClaim := { program := "ytjliipnjifongaa", sum := "a76d71a0b7a49de4a1fddfb601c5a284de9e112afa6789681dbad30ffdfe17fe", func := "loop.example/loggertree/laws.FnExactWriteLines", spec := "fnExactWriteLines", apart := false }
def FnExactWriteLinesSaid : Prop := fnExactWriteLinesRow.holds Try.pinned (OpenSpec.ofChange fnExactWriteLinesSpec)

/-- ITS FALSE NEIGHBOUR: 'it returns false'. Refute it at one input. -/
def fnExactWriteLinesWrong : ChangeSpec := { name := "fnExactWriteLines", fn := fun _ => fun
  | [d1, d2] => { results := [.lit (.bool false)], args := [d1, d2] }
  | _ => none }
def FnExactWriteLinesWrongFalsely : Prop := fnExactWriteLinesRow.holds Try.pinned (OpenSpec.ofChange fnExactWriteLinesWrong)

/-- 'laws.FnValidDays': WHATEVER THE INPUT: true; the input reads as it did. -/
def fnValidDaysSpec : ChangeSpec := { name := "fnValidDays", fn := fun _ => fun
  | [d] => { results := [.lit (.bool true)], args := [d] }
  | _ => none }
def fnValidDaysRow : OpenClaim := { program := "ytjliipnjifongaa", sum := "a76d71a0b7a49de4a1fddfb601c5a284de9e112afa6789681dbad30ffdfe17fe", func := "loop.example/loggertree/laws.FnValidDays", spec := "fnValidDays", apart := false }
def FnValidDaysSaid : Prop := fnValidDaysRow.holds Try.pinned (OpenSpec.ofChange fnValidDaysSpec)

/-- ITS FALSE NEIGHBOUR: 'it returns false'. Refute it at one input. -/
def fnValidDaysWrong : ChangeSpec := { name := "fnValidDays", fn := fun _ => fun
  | [d] => { results := [.lit (.bool false)], args := [d] }
  | _ => none }
def FnValidDaysWrongFalsely : Prop := fnValidDaysRow.holds Try.pinned (OpenSpec.ofChange fnValidDaysWrong)

/- THE SECOND FORM. 'bulk': how many values and letters a reading holds, each counted each time it is reached (what is shared counts as often as it is met; a slice's spare places count too). A statement '..UptoSaid' is the law's where the arguments, and the package variables that the reading takes, are together of bulk at most 1048576: NARROWER than '..Said'. Prove '..Said' where nothing that the law and all that it calls make is longer than what came in: it says more and counts as full. Else prove '..UptoSaid'. A law counts once. -/
mutual
def uptoBulk {H : Type} : DataW H → Nat
  | .lit (.string bytes) => bytes.length + 1
  | .lit _ => 1
  | .nil => 1
  | .ptr d => uptoBulk d + 1
  | .slice elems spare => uptoBulkAll elems + uptoBulkAll spare + 1
  | .agg parts => uptoBulkAll parts + 1
  | .iface _ d => uptoBulk d + 1
  | .map entries => uptoBulkEntries entries + 1
  | .held _ => 1
def uptoBulkAll {H : Type} : List (DataW H) → Nat
  | [] => 0
  | d :: r => uptoBulk d + uptoBulkAll r
def uptoBulkEntries {H : Type} : List (Lit × DataW H) → Nat
  | [] => 0
  | x :: r => uptoBulkEntry x + uptoBulkEntries r
def uptoBulkEntry {H : Type} : Lit × DataW H → Nat
  | (.string bytes, d) => bytes.length + uptoBulk d + 1
  | (_, d) => uptoBulk d + 1
 end
def uptoSmall : (H : Type) → List (DataW H) → Bool := fun _ ds => decide (uptoBulkAll ds ≤ 1048576)
def OpenSpec.upto (s : _root_.Go.ChangeSpec) : _root_.Go.OpenSpec := { _root_.Go.OpenSpec.ofChange s with cond := some uptoSmall }

/-- 'laws.FnRecordsOf', WHERE WHAT IT READS IS OF BULK AT MOST 1048576: true; the input reads as it did. -/
def fnRecordsOfUptoRow : OpenClaim := { program := "ytjliipnjifongaa", sum := "a76d71a0b7a49de4a1fddfb601c5a284de9e112afa6789681dbad30ffdfe17fe", func := "loop.example/loggertree/laws.FnRecordsOf", spec := "fnRecordsOf", apart := false, narrowed := true }
def FnRecordsOfUptoSaid : Prop := fnRecordsOfUptoRow.holds Try.pinned (OpenSpec.upto fnRecordsOfSpec)

/-- 'laws.FnSampleRecords', WHERE WHAT IT READS IS OF BULK AT MOST 1048576: true; the input reads as it did. -/
def fnSampleRecordsUptoRow : OpenClaim := { program := "ytjliipnjifongaa", sum := "a76d71a0b7a49de4a1fddfb601c5a284de9e112afa6789681dbad30ffdfe17fe", func := "loop.example/loggertree/laws.FnSampleRecords", spec := "fnSampleRecords", apart := false, narrowed := true }
def FnSampleRecordsUptoSaid : Prop := fnSampleRecordsUptoRow.holds Try.pinned (OpenSpec.upto fnSampleRecordsSpec)

/-- 'laws.FnMergeRecords', WHERE WHAT IT READS IS OF BULK AT MOST 1048576: true; the input reads as it did. -/
def fnMergeRecordsUptoRow : OpenClaim := { program := "ytjliipnjifongaa", sum := "a76d71a0b7a49de4a1fddfb601c5a284de9e112afa6789681dbad30ffdfe17fe", func := "loop.example/loggertree/laws.FnMergeRecords", spec := "fnMergeRecords", apart := false, narrowed := true }
def FnMergeRecordsUptoSaid : Prop := fnMergeRecordsUptoRow.holds Try.pinned (OpenSpec.upto fnMergeRecordsSpec)

/-- 'laws.FnExactValidDays', WHERE WHAT IT READS IS OF BULK AT MOST 1048576: true; the input reads as it did. -/
def fnExactValidDaysUptoRow : OpenClaim := { program := "ytjliipnjifongaa", sum := "a76d71a0b7a49de4a1fddfb601c5a284de9e112afa6789681dbad30ffdfe17fe", func := "loop.example/loggertree/laws.FnExactValidDays", spec := "fnExactValidDays", apart := false, narrowed := true }
def FnExactValidDaysUptoSaid : Prop := fnExactValidDaysUptoRow.holds Try.pinned (OpenSpec.upto fnExactValidDaysSpec)

/-- 'laws.FnExactWriteDay', WHERE WHAT IT READS IS OF BULK AT MOST 1048576: true; the input reads as it did. -/
def fnExactWriteDayUptoRow : OpenClaim := { program := "ytjliipnjifongaa", sum := "a76d71a0b7a49de4a1fddfb601c5a284de9e112afa6789681dbad30ffdfe17fe", func := "loop.example/loggertree/laws.FnExactWriteDay", spec := "fnExactWriteDay", apart := false, narrowed := true }
def FnExactWriteDayUptoSaid : Prop := fnExactWriteDayUptoRow.holds Try.pinned (OpenSpec.upto fnExactWriteDaySpec)

/-- 'laws.FnExactRollFiles', WHERE WHAT IT READS IS OF BULK AT MOST 1048576: true; the input reads as it did. -/
def fnExactRollFilesUptoRow : OpenClaim := { program := "ytjliipnjifongaa", sum := "a76d71a0b7a49de4a1fddfb601c5a284de9e112afa6789681dbad30ffdfe17fe", func := "loop.example/loggertree/laws.FnExactRollFiles", spec := "fnExactRollFiles", apart := false, narrowed := true }
def FnExactRollFilesUptoSaid : Prop := fnExactRollFilesUptoRow.holds Try.pinned (OpenSpec.upto fnExactRollFilesSpec)

/-- 'laws.FnExactWriteLine', WHERE WHAT IT READS IS OF BULK AT MOST 1048576: true; the input reads as it did. -/
def fnExactWriteLineUptoRow : OpenClaim := { program := "ytjliipnjifongaa", sum := "a76d71a0b7a49de4a1fddfb601c5a284de9e112afa6789681dbad30ffdfe17fe", func := "loop.example/loggertree/laws.FnExactWriteLine", spec := "fnExactWriteLine", apart := false, narrowed := true }
def FnExactWriteLineUptoSaid : Prop := fnExactWriteLineUptoRow.holds Try.pinned (OpenSpec.upto fnExactWriteLineSpec)

/-- 'laws.FnExactWriteLines', WHERE WHAT IT READS IS OF BULK AT MOST 1048576: true; the input reads as it did. -/
def fnExactWriteLinesUptoRow : OpenClaim := { program := "ytjliipnjifongaa", sum := "a76d71a0b7a49de4a1fddfb601c5a284de9e112afa6789681dbad30ffdfe17fe", func := "loop.example/loggertree/laws.FnExactWriteLines", spec := "fnExactWriteLines", apart := false, narrowed := true }
def FnExactWriteLinesUptoSaid : Prop := fnExactWriteLinesUptoRow.holds Try.pinned (OpenSpec.upto fnExactWriteLinesSpec)

/-- 'laws.FnValidDays', WHERE WHAT IT READS IS OF BULK AT MOST 1048576: true; the input reads as it did. -/
def fnValidDaysUptoRow : OpenClaim := { program := "ytjliipnjifongaa", sum := "a76d71a0b7a49de4a1fddfb601c5a284de9e112afa6789681dbad30ffdfe17fe", func := "loop.example/loggertree/laws.FnValidDays", spec := "fnValidDays", apart := false, narrowed := true }
def FnValidDaysUptoSaid : Prop := fnValidDaysUptoRow.holds Try.pinned (OpenSpec.upto fnValidDaysSpec)

end Rows
end Go.Proofs.Ytjliipnjifongaa
