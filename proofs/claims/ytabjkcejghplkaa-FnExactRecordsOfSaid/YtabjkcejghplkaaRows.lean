/-
  No cell of these rows narrows 'for every input' (looked for: loops, veiled, ifaces, maps, wideKeys, modest, calm, conditions, laid).
  DERIVED. THE GIVEN ROWS OF THIS SEAT. 8 by the template 'for every input the law returns true; each argument reads behind the call as it read before'; 0 by the template 'total and deterministic' (their statements: YtabjkcejghplkaaTotals.lean).
  GIVEN WITH THE SEED: the statements are not yours to turn. If you find one false, say at which input.
  Laid BY PROGRAM, IN A SANDBOX (cutbox-rows.mjs): the forced cells as the released guide's own fill.sh prints them over the translation 80d825a6731f52bb… (all of the seat's roots in one cut). By AI agents, Wed Nov 11 2026. No macro, syntax, notation, axiom, sorry.
-/
import Derived.Test.YtabjkcejghplkaaChecked
import GoSem.Claim
import GoSem.ClaimJoined
import GoSem.ClaimMapViews
import Derived.JoinedTies
import Derived.KernelRfl
namespace Go.Proofs.Ytabjkcejghplkaa
/- THE CELL 'sum', in the pinned program and in every row, IS THE sha256 OF THE DUMP (.gsa) THAT YtabjkcejghplkaaProg.lean LOADS. Nothing in Lean hashes anything: it is a label: what it is worth is what the hold of that sum in a sandbox is worth. -/
noncomputable def Try.pinned : Pinned := { name := "ytabjkcejghplkaa", sum := "80d825a6731f52bbbe435e4d033f8680724cc8643081149e695e51e0879d6292", checked := Try.checked }
namespace Rows
def none {H : Type} : Left H := { results := [], args := [] }

/-- 'laws.FnExactValidRecords': WHATEVER THE INPUT: true; the input reads as it did. -/
def fnExactValidRecordsSpec : ChangeSpec := { name := "fnExactValidRecords", fn := fun _ => fun
  | [d] => { results := [.lit (.bool true)], args := [d] }
  | _ => none }
def fnExactValidRecordsRow : OpenClaim := { program := "ytabjkcejghplkaa", sum := "80d825a6731f52bbbe435e4d033f8680724cc8643081149e695e51e0879d6292", func := "loop.example/loggertree/laws.FnExactValidRecords", spec := "fnExactValidRecords", apart := false }
def FnExactValidRecordsSaid : Prop := fnExactValidRecordsRow.holds Try.pinned (OpenSpec.ofChange fnExactValidRecordsSpec)

/-- ITS FALSE NEIGHBOUR: 'it returns false'. Refute it at one input. -/
def fnExactValidRecordsWrong : ChangeSpec := { name := "fnExactValidRecords", fn := fun _ => fun
  | [d] => { results := [.lit (.bool false)], args := [d] }
  | _ => none }
def FnExactValidRecordsWrongFalsely : Prop := fnExactValidRecordsRow.holds Try.pinned (OpenSpec.ofChange fnExactValidRecordsWrong)

/-- 'laws.FnExactFilterRecord': WHATEVER THE INPUT: true; the input reads as it did. -/
def fnExactFilterRecordSpec : ChangeSpec := { name := "fnExactFilterRecord", fn := fun _ => fun
  | [d1, d2] => { results := [.lit (.bool true)], args := [d1, d2] }
  | _ => none }
def fnExactFilterRecordRow : OpenClaim := { program := "ytabjkcejghplkaa", sum := "80d825a6731f52bbbe435e4d033f8680724cc8643081149e695e51e0879d6292", func := "loop.example/loggertree/laws.FnExactFilterRecord", spec := "fnExactFilterRecord", unfollowed := true, recurses := true, apart := false }
def FnExactFilterRecordSaid : Prop := fnExactFilterRecordRow.holds Try.pinned (OpenSpec.ofChange fnExactFilterRecordSpec)

/-- ITS FALSE NEIGHBOUR: 'it returns false'. Refute it at one input. -/
def fnExactFilterRecordWrong : ChangeSpec := { name := "fnExactFilterRecord", fn := fun _ => fun
  | [d1, d2] => { results := [.lit (.bool false)], args := [d1, d2] }
  | _ => none }
def FnExactFilterRecordWrongFalsely : Prop := fnExactFilterRecordRow.holds Try.pinned (OpenSpec.ofChange fnExactFilterRecordWrong)

/-- 'laws.FnExactRecordsOf': WHATEVER THE INPUT: true; the input reads as it did. -/
def fnExactRecordsOfSpec : ChangeSpec := { name := "fnExactRecordsOf", fn := fun _ => fun
  | [d1, d2] => { results := [.lit (.bool true)], args := [d1, d2] }
  | _ => none }
def fnExactRecordsOfRow : OpenClaim := { program := "ytabjkcejghplkaa", sum := "80d825a6731f52bbbe435e4d033f8680724cc8643081149e695e51e0879d6292", func := "loop.example/loggertree/laws.FnExactRecordsOf", spec := "fnExactRecordsOf", apart := false }
def FnExactRecordsOfSaid : Prop := fnExactRecordsOfRow.holds Try.pinned (OpenSpec.ofChange fnExactRecordsOfSpec)

/-- ITS FALSE NEIGHBOUR: 'it returns false'. Refute it at one input. -/
def fnExactRecordsOfWrong : ChangeSpec := { name := "fnExactRecordsOf", fn := fun _ => fun
  | [d1, d2] => { results := [.lit (.bool false)], args := [d1, d2] }
  | _ => none }
def FnExactRecordsOfWrongFalsely : Prop := fnExactRecordsOfRow.holds Try.pinned (OpenSpec.ofChange fnExactRecordsOfWrong)

/-- 'laws.FnExactDropRepeats': WHATEVER THE INPUT: true; the input reads as it did. -/
def fnExactDropRepeatsSpec : ChangeSpec := { name := "fnExactDropRepeats", fn := fun _ => fun
  | [d] => { results := [.lit (.bool true)], args := [d] }
  | _ => none }
def fnExactDropRepeatsRow : OpenClaim := { program := "ytabjkcejghplkaa", sum := "80d825a6731f52bbbe435e4d033f8680724cc8643081149e695e51e0879d6292", func := "loop.example/loggertree/laws.FnExactDropRepeats", spec := "fnExactDropRepeats", apart := false }
def FnExactDropRepeatsSaid : Prop := fnExactDropRepeatsRow.holds Try.pinned (OpenSpec.ofChange fnExactDropRepeatsSpec)

/-- ITS FALSE NEIGHBOUR: 'it returns false'. Refute it at one input. -/
def fnExactDropRepeatsWrong : ChangeSpec := { name := "fnExactDropRepeats", fn := fun _ => fun
  | [d] => { results := [.lit (.bool false)], args := [d] }
  | _ => none }
def FnExactDropRepeatsWrongFalsely : Prop := fnExactDropRepeatsRow.holds Try.pinned (OpenSpec.ofChange fnExactDropRepeatsWrong)

/-- 'laws.FnExactSampleRecords': WHATEVER THE INPUT: true; the input reads as it did. -/
def fnExactSampleRecordsSpec : ChangeSpec := { name := "fnExactSampleRecords", fn := fun _ => fun
  | [d1, d2, d3] => { results := [.lit (.bool true)], args := [d1, d2, d3] }
  | _ => none }
def fnExactSampleRecordsRow : OpenClaim := { program := "ytabjkcejghplkaa", sum := "80d825a6731f52bbbe435e4d033f8680724cc8643081149e695e51e0879d6292", func := "loop.example/loggertree/laws.FnExactSampleRecords", spec := "fnExactSampleRecords", apart := false }
def FnExactSampleRecordsSaid : Prop := fnExactSampleRecordsRow.holds Try.pinned (OpenSpec.ofChange fnExactSampleRecordsSpec)

/-- ITS FALSE NEIGHBOUR: 'it returns false'. Refute it at one input. -/
def fnExactSampleRecordsWrong : ChangeSpec := { name := "fnExactSampleRecords", fn := fun _ => fun
  | [d1, d2, d3] => { results := [.lit (.bool false)], args := [d1, d2, d3] }
  | _ => none }
def FnExactSampleRecordsWrongFalsely : Prop := fnExactSampleRecordsRow.holds Try.pinned (OpenSpec.ofChange fnExactSampleRecordsWrong)

/-- 'laws.FnExactMergeRecords': WHATEVER THE INPUT: true; the input reads as it did. -/
def fnExactMergeRecordsSpec : ChangeSpec := { name := "fnExactMergeRecords", fn := fun _ => fun
  | [d1, d2] => { results := [.lit (.bool true)], args := [d1, d2] }
  | _ => none }
def fnExactMergeRecordsRow : OpenClaim := { program := "ytabjkcejghplkaa", sum := "80d825a6731f52bbbe435e4d033f8680724cc8643081149e695e51e0879d6292", func := "loop.example/loggertree/laws.FnExactMergeRecords", spec := "fnExactMergeRecords", apart := false }
def FnExactMergeRecordsSaid : Prop := fnExactMergeRecordsRow.holds Try.pinned (OpenSpec.ofChange fnExactMergeRecordsSpec)

/-- ITS FALSE NEIGHBOUR: 'it returns false'. Refute it at one input. -/
def fnExactMergeRecordsWrong : ChangeSpec := { name := "fnExactMergeRecords", fn := fun _ => fun
  | [d1, d2] => { results := [.lit (.bool false)], args := [d1, d2] }
  | _ => none }
def FnExactMergeRecordsWrongFalsely : Prop := fnExactMergeRecordsRow.holds Try.pinned (OpenSpec.ofChange fnExactMergeRecordsWrong)

/-- 'laws.FnExactValidFormat': WHATEVER THE INPUT: true; the input reads as it did. -/
def fnExactValidFormatSpec : ChangeSpec := { name := "fnExactValidFormat", fn := fun _ => fun
  | [d] => { results := [.lit (.bool true)], args := [d] }
  | _ => none }
def fnExactValidFormatRow : OpenClaim := { program := "ytabjkcejghplkaa", sum := "80d825a6731f52bbbe435e4d033f8680724cc8643081149e695e51e0879d6292", func := "loop.example/loggertree/laws.FnExactValidFormat", spec := "fnExactValidFormat", inPlace := ["internal/bytealg.IndexByteString", "internal/bytealg.IndexString"], recurses := true, named := ["internal/bytealg.MaxLen"], apart := false }
def FnExactValidFormatSaid : Prop := fnExactValidFormatRow.holds Try.pinned (OpenSpec.ofChange fnExactValidFormatSpec)

/-- ITS FALSE NEIGHBOUR: 'it returns false'. Refute it at one input. -/
def fnExactValidFormatWrong : ChangeSpec := { name := "fnExactValidFormat", fn := fun _ => fun
  | [d] => { results := [.lit (.bool false)], args := [d] }
  | _ => none }
def FnExactValidFormatWrongFalsely : Prop := fnExactValidFormatRow.holds Try.pinned (OpenSpec.ofChange fnExactValidFormatWrong)

/-- 'laws.FnExactFieldsOf': WHATEVER THE INPUT: true; the input reads as it did. -/
def fnExactFieldsOfSpec : ChangeSpec := { name := "fnExactFieldsOf", fn := fun _ => fun
  | [d] => { results := [.lit (.bool true)], args := [d] }
  | _ => none }
def fnExactFieldsOfRow : OpenClaim := { program := "ytabjkcejghplkaa", sum := "80d825a6731f52bbbe435e4d033f8680724cc8643081149e695e51e0879d6292", func := "loop.example/loggertree/laws.FnExactFieldsOf", spec := "fnExactFieldsOf", inPlace := ["internal/bytealg.IndexByteString", "internal/bytealg.IndexString"], recurses := true, named := ["internal/bytealg.MaxLen"], apart := false }
def FnExactFieldsOfSaid : Prop := fnExactFieldsOfRow.holds Try.pinned (OpenSpec.ofChange fnExactFieldsOfSpec)

/-- ITS FALSE NEIGHBOUR: 'it returns false'. Refute it at one input. -/
def fnExactFieldsOfWrong : ChangeSpec := { name := "fnExactFieldsOf", fn := fun _ => fun
  | [d] => { results := [.lit (.bool false)], args := [d] }
  | _ => none }
def FnExactFieldsOfWrongFalsely : Prop := fnExactFieldsOfRow.holds Try.pinned (OpenSpec.ofChange fnExactFieldsOfWrong)

/- THE SECOND FORM. 'bulk': how many values and letters a reading holds, each counted each time it is reached (what is shared counts as often as it is met; a slice's spare places count too). A statement '..UptoSaid' is the law's where the arguments, and the package variables that the reading takes, are together of bulk at most 1048576: NARROWER than '..Said'. Prove '..Said' where nothing that the law and all that it calls make is longer than what came in: it says more and counts as full. Else prove '..UptoSaid'. A law counts once. -/
mutual
def uptoBulk {H : Type} : DataW H → Nat
  | .lit (.string bytes) => bytes.length + 1
  | .lit _ => 1
  | .nil => 1
  | .ptr d => uptoBulk d + 1
  | .slice elems spare => uptoBulkAll elems + uptoBulkAll spare + 1
  | .agg parts => uptoBulkAll parts + 1
  | .iface _ d => uptoBulk d + 1
  | .map entries => uptoBulkEntries entries + 1
  | .held _ => 1
def uptoBulkAll {H : Type} : List (DataW H) → Nat
  | [] => 0
  | d :: r => uptoBulk d + uptoBulkAll r
def uptoBulkEntries {H : Type} : List (Lit × DataW H) → Nat
  | [] => 0
  | x :: r => uptoBulkEntry x + uptoBulkEntries r
def uptoBulkEntry {H : Type} : Lit × DataW H → Nat
  | (.string bytes, d) => bytes.length + uptoBulk d + 1
  | (_, d) => uptoBulk d + 1
 end
def uptoSmall : (H : Type) → List (DataW H) → Bool := fun _ ds => decide (uptoBulkAll ds ≤ 1048576)
def OpenSpec.upto (s : _root_.Go.ChangeSpec) : _root_.Go.OpenSpec := { _root_.Go.OpenSpec.ofChange s with cond := some uptoSmall }

/-- 'laws.FnExactValidRecords', WHERE WHAT IT READS IS OF BULK AT MOST 1048576: true; the input reads as it did. -/
def fnExactValidRecordsUptoRow : OpenClaim := { program := "ytabjkcejghplkaa", sum := "80d825a6731f52bbbe435e4d033f8680724cc8643081149e695e51e0879d6292", func := "loop.example/loggertree/laws.FnExactValidRecords", spec := "fnExactValidRecords", apart := false, narrowed := true }
def FnExactValidRecordsUptoSaid : Prop := fnExactValidRecordsUptoRow.holds Try.pinned (OpenSpec.upto fnExactValidRecordsSpec)

/-- 'laws.FnExactFilterRecord', WHERE WHAT IT READS IS OF BULK AT MOST 1048576: true; the input reads as it did. -/
def fnExactFilterRecordUptoRow : OpenClaim := { program := "ytabjkcejghplkaa", sum := "80d825a6731f52bbbe435e4d033f8680724cc8643081149e695e51e0879d6292", func := "loop.example/loggertree/laws.FnExactFilterRecord", spec := "fnExactFilterRecord", unfollowed := true, recurses := true, apart := false, narrowed := true }
def FnExactFilterRecordUptoSaid : Prop := fnExactFilterRecordUptoRow.holds Try.pinned (OpenSpec.upto fnExactFilterRecordSpec)

/-- 'laws.FnExactRecordsOf', WHERE WHAT IT READS IS OF BULK AT MOST 1048576: true; the input reads as it did. -/
def fnExactRecordsOfUptoRow : OpenClaim := { program := "ytabjkcejghplkaa", sum := "80d825a6731f52bbbe435e4d033f8680724cc8643081149e695e51e0879d6292", func := "loop.example/loggertree/laws.FnExactRecordsOf", spec := "fnExactRecordsOf", apart := false, narrowed := true }
def FnExactRecordsOfUptoSaid : Prop := fnExactRecordsOfUptoRow.holds Try.pinned (OpenSpec.upto fnExactRecordsOfSpec)

/-- 'laws.FnExactDropRepeats', WHERE WHAT IT READS IS OF BULK AT MOST 1048576: true; the input reads as it did. -/
def fnExactDropRepeatsUptoRow : OpenClaim := { program := "ytabjkcejghplkaa", sum := "80d825a6731f52bbbe435e4d033f8680724cc8643081149e695e51e0879d6292", func := "loop.example/loggertree/laws.FnExactDropRepeats", spec := "fnExactDropRepeats", apart := false, narrowed := true }
def FnExactDropRepeatsUptoSaid : Prop := fnExactDropRepeatsUptoRow.holds Try.pinned (OpenSpec.upto fnExactDropRepeatsSpec)

/-- 'laws.FnExactSampleRecords', WHERE WHAT IT READS IS OF BULK AT MOST 1048576: true; the input reads as it did. -/
def fnExactSampleRecordsUptoRow : OpenClaim := { program := "ytabjkcejghplkaa", sum := "80d825a6731f52bbbe435e4d033f8680724cc8643081149e695e51e0879d6292", func := "loop.example/loggertree/laws.FnExactSampleRecords", spec := "fnExactSampleRecords", apart := false, narrowed := true }
def FnExactSampleRecordsUptoSaid : Prop := fnExactSampleRecordsUptoRow.holds Try.pinned (OpenSpec.upto fnExactSampleRecordsSpec)

/-- 'laws.FnExactMergeRecords', WHERE WHAT IT READS IS OF BULK AT MOST 1048576: true; the input reads as it did. -/
def fnExactMergeRecordsUptoRow : OpenClaim := { program := "ytabjkcejghplkaa", sum := "80d825a6731f52bbbe435e4d033f8680724cc8643081149e695e51e0879d6292", func := "loop.example/loggertree/laws.FnExactMergeRecords", spec := "fnExactMergeRecords", apart := false, narrowed := true }
def FnExactMergeRecordsUptoSaid : Prop := fnExactMergeRecordsUptoRow.holds Try.pinned (OpenSpec.upto fnExactMergeRecordsSpec)

/-- 'laws.FnExactValidFormat', WHERE WHAT IT READS IS OF BULK AT MOST 1048576: true; the input reads as it did. -/
def fnExactValidFormatUptoRow : OpenClaim := { program := "ytabjkcejghplkaa", sum := "80d825a6731f52bbbe435e4d033f8680724cc8643081149e695e51e0879d6292", func := "loop.example/loggertree/laws.FnExactValidFormat", spec := "fnExactValidFormat", inPlace := ["internal/bytealg.IndexByteString", "internal/bytealg.IndexString"], recurses := true, named := ["internal/bytealg.MaxLen"], apart := false, narrowed := true }
def FnExactValidFormatUptoSaid : Prop := fnExactValidFormatUptoRow.holds Try.pinned (OpenSpec.upto fnExactValidFormatSpec)

/-- 'laws.FnExactFieldsOf', WHERE WHAT IT READS IS OF BULK AT MOST 1048576: true; the input reads as it did. -/
def fnExactFieldsOfUptoRow : OpenClaim := { program := "ytabjkcejghplkaa", sum := "80d825a6731f52bbbe435e4d033f8680724cc8643081149e695e51e0879d6292", func := "loop.example/loggertree/laws.FnExactFieldsOf", spec := "fnExactFieldsOf", inPlace := ["internal/bytealg.IndexByteString", "internal/bytealg.IndexString"], recurses := true, named := ["internal/bytealg.MaxLen"], apart := false, narrowed := true }
def FnExactFieldsOfUptoSaid : Prop := fnExactFieldsOfUptoRow.holds Try.pinned (OpenSpec.upto fnExactFieldsOfSpec)

end Rows
end Go.Proofs.Ytabjkcejghplkaa
