/-
  No cell of these rows narrows 'for every input' (looked for: loops, veiled, ifaces, maps, wideKeys, modest, calm, conditions, laid).
  DERIVED. THE GIVEN ROWS OF THIS SEAT. 8 by the template 'for every input the law returns true; each argument reads behind the call as it read before'; 0 by the template 'total and deterministic' (their statements: YthgkkckbncgfmaaTotals.lean).
  GIVEN WITH THE SEED: the statements are not yours to turn. If you find one false, say at which input.
  Laid BY PROGRAM, IN A SANDBOX (cutbox-rows.mjs): the forced cells as the released guide's own fill.sh prints them over the translation 34e6f0a0301b3a59… (all of the seat's roots in one cut). By AI agents, Wed Nov 11 2026. No macro, syntax, notation, axiom, sorry.
-/
import Derived.Test.YthgkkckbncgfmaaChecked
import GoSem.Claim
import GoSem.ClaimJoined
import GoSem.ClaimMapViews
import Derived.JoinedTies
import Derived.KernelRfl
namespace Go.Proofs.Ythgkkckbncgfmaa
/- THE CELL 'sum', in the pinned program and in every row, IS THE sha256 OF THE DUMP (.gsa) THAT YthgkkckbncgfmaaProg.lean LOADS. Nothing in Lean hashes anything: it is a label: what it is worth is what the hold of that sum in a sandbox is worth. -/
noncomputable def Try.pinned : Pinned := { name := "ythgkkckbncgfmaa", sum := "34e6f0a0301b3a59fc09d326c4fbcbf657311b4c38d4f98814a1f0ee3d3af246", checked := Try.checked }
namespace Rows
def none {H : Type} : Left H := { results := [], args := [] }

/-- 'laws.FnAtLeast': WHATEVER THE INPUT: true; the input reads as it did. -/
def fnAtLeastSpec : ChangeSpec := { name := "fnAtLeast", fn := fun _ => fun
  | [d] => { results := [.lit (.bool true)], args := [d] }
  | _ => none }
def fnAtLeastRow : OpenClaim := { program := "ythgkkckbncgfmaa", sum := "34e6f0a0301b3a59fc09d326c4fbcbf657311b4c38d4f98814a1f0ee3d3af246", func := "loop.example/loggertree/laws.FnAtLeast", spec := "fnAtLeast", apart := false }
def FnAtLeastSaid : Prop := fnAtLeastRow.holds Try.pinned (OpenSpec.ofChange fnAtLeastSpec)

/-- ITS FALSE NEIGHBOUR: 'it returns false'. Refute it at one input. -/
def fnAtLeastWrong : ChangeSpec := { name := "fnAtLeast", fn := fun _ => fun
  | [d] => { results := [.lit (.bool false)], args := [d] }
  | _ => none }
def FnAtLeastWrongFalsely : Prop := fnAtLeastRow.holds Try.pinned (OpenSpec.ofChange fnAtLeastWrong)

/-- 'laws.FnDropRepeats': WHATEVER THE INPUT: true; the input reads as it did. -/
def fnDropRepeatsSpec : ChangeSpec := { name := "fnDropRepeats", fn := fun _ => fun
  | [d] => { results := [.lit (.bool true)], args := [d] }
  | _ => none }
def fnDropRepeatsRow : OpenClaim := { program := "ythgkkckbncgfmaa", sum := "34e6f0a0301b3a59fc09d326c4fbcbf657311b4c38d4f98814a1f0ee3d3af246", func := "loop.example/loggertree/laws.FnDropRepeats", spec := "fnDropRepeats", apart := false }
def FnDropRepeatsSaid : Prop := fnDropRepeatsRow.holds Try.pinned (OpenSpec.ofChange fnDropRepeatsSpec)

/-- ITS FALSE NEIGHBOUR: 'it returns false'. Refute it at one input. -/
def fnDropRepeatsWrong : ChangeSpec := { name := "fnDropRepeats", fn := fun _ => fun
  | [d] => { results := [.lit (.bool false)], args := [d] }
  | _ => none }
def FnDropRepeatsWrongFalsely : Prop := fnDropRepeatsRow.holds Try.pinned (OpenSpec.ofChange fnDropRepeatsWrong)

/-- 'laws.FnValidRecords': WHATEVER THE INPUT: true; the input reads as it did. -/
def fnValidRecordsSpec : ChangeSpec := { name := "fnValidRecords", fn := fun _ => fun
  | [d] => { results := [.lit (.bool true)], args := [d] }
  | _ => none }
def fnValidRecordsRow : OpenClaim := { program := "ythgkkckbncgfmaa", sum := "34e6f0a0301b3a59fc09d326c4fbcbf657311b4c38d4f98814a1f0ee3d3af246", func := "loop.example/loggertree/laws.FnValidRecords", spec := "fnValidRecords", apart := false }
def FnValidRecordsSaid : Prop := fnValidRecordsRow.holds Try.pinned (OpenSpec.ofChange fnValidRecordsSpec)

/-- ITS FALSE NEIGHBOUR: 'it returns false'. Refute it at one input. -/
def fnValidRecordsWrong : ChangeSpec := { name := "fnValidRecords", fn := fun _ => fun
  | [d] => { results := [.lit (.bool false)], args := [d] }
  | _ => none }
def FnValidRecordsWrongFalsely : Prop := fnValidRecordsRow.holds Try.pinned (OpenSpec.ofChange fnValidRecordsWrong)

/-- 'laws.FnMergeRecords': WHATEVER THE INPUT: true; the input reads as it did. -/
def fnMergeRecordsSpec : ChangeSpec := { name := "fnMergeRecords", fn := fun _ => fun
  | [d] => { results := [.lit (.bool true)], args := [d] }
  | _ => none }
def fnMergeRecordsRow : OpenClaim := { program := "ythgkkckbncgfmaa", sum := "34e6f0a0301b3a59fc09d326c4fbcbf657311b4c38d4f98814a1f0ee3d3af246", func := "loop.example/loggertree/laws.FnMergeRecords", spec := "fnMergeRecords", apart := false }
def FnMergeRecordsSaid : Prop := fnMergeRecordsRow.holds Try.pinned (OpenSpec.ofChange fnMergeRecordsSpec)

/-- ITS FALSE NEIGHBOUR: 'it returns false'. Refute it at one input. -/
def fnMergeRecordsWrong : ChangeSpec := { name := "fnMergeRecords", fn := fun _ => fun
  | [d] => { results := [.lit (.bool false)], args := [d] }
  | _ => none }
def FnMergeRecordsWrongFalsely : Prop := fnMergeRecordsRow.holds Try.pinned (OpenSpec.ofChange fnMergeRecordsWrong)

/-- 'laws.FnValidBuffer': WHATEVER THE INPUT: true; the input reads as it did. -/
def fnValidBufferSpec : ChangeSpec := { name := "fnValidBuffer", fn := fun _ => fun
  | [d] => { results := [.lit (.bool true)], args := [d] }
  | _ => none }
def fnValidBufferRow : OpenClaim := { program := "ythgkkckbncgfmaa", sum := "34e6f0a0301b3a59fc09d326c4fbcbf657311b4c38d4f98814a1f0ee3d3af246", func := "loop.example/loggertree/laws.FnValidBuffer", spec := "fnValidBuffer", apart := false }
def FnValidBufferSaid : Prop := fnValidBufferRow.holds Try.pinned (OpenSpec.ofChange fnValidBufferSpec)

/-- ITS FALSE NEIGHBOUR: 'it returns false'. Refute it at one input. -/
def fnValidBufferWrong : ChangeSpec := { name := "fnValidBuffer", fn := fun _ => fun
  | [d] => { results := [.lit (.bool false)], args := [d] }
  | _ => none }
def FnValidBufferWrongFalsely : Prop := fnValidBufferRow.holds Try.pinned (OpenSpec.ofChange fnValidBufferWrong)

/-- 'laws.FnFlushBuffer': WHATEVER THE INPUT: true; the input reads as it did. -/
def fnFlushBufferSpec : ChangeSpec := { name := "fnFlushBuffer", fn := fun _ => fun
  | [d] => { results := [.lit (.bool true)], args := [d] }
  | _ => none }
def fnFlushBufferRow : OpenClaim := { program := "ythgkkckbncgfmaa", sum := "34e6f0a0301b3a59fc09d326c4fbcbf657311b4c38d4f98814a1f0ee3d3af246", func := "loop.example/loggertree/laws.FnFlushBuffer", spec := "fnFlushBuffer", apart := false }
def FnFlushBufferSaid : Prop := fnFlushBufferRow.holds Try.pinned (OpenSpec.ofChange fnFlushBufferSpec)

/-- ITS FALSE NEIGHBOUR: 'it returns false'. Refute it at one input. -/
def fnFlushBufferWrong : ChangeSpec := { name := "fnFlushBuffer", fn := fun _ => fun
  | [d] => { results := [.lit (.bool false)], args := [d] }
  | _ => none }
def FnFlushBufferWrongFalsely : Prop := fnFlushBufferRow.holds Try.pinned (OpenSpec.ofChange fnFlushBufferWrong)

/-- 'laws.FnPushRecord': WHATEVER THE INPUT: true; the input reads as it did. -/
def fnPushRecordSpec : ChangeSpec := { name := "fnPushRecord", fn := fun _ => fun
  | [d] => { results := [.lit (.bool true)], args := [d] }
  | _ => none }
def fnPushRecordRow : OpenClaim := { program := "ythgkkckbncgfmaa", sum := "34e6f0a0301b3a59fc09d326c4fbcbf657311b4c38d4f98814a1f0ee3d3af246", func := "loop.example/loggertree/laws.FnPushRecord", spec := "fnPushRecord", apart := false }
def FnPushRecordSaid : Prop := fnPushRecordRow.holds Try.pinned (OpenSpec.ofChange fnPushRecordSpec)

/-- ITS FALSE NEIGHBOUR: 'it returns false'. Refute it at one input. -/
def fnPushRecordWrong : ChangeSpec := { name := "fnPushRecord", fn := fun _ => fun
  | [d] => { results := [.lit (.bool false)], args := [d] }
  | _ => none }
def FnPushRecordWrongFalsely : Prop := fnPushRecordRow.holds Try.pinned (OpenSpec.ofChange fnPushRecordWrong)

/-- 'laws.FnValidQueue': WHATEVER THE INPUT: true; the input reads as it did. -/
def fnValidQueueSpec : ChangeSpec := { name := "fnValidQueue", fn := fun _ => fun
  | [d] => { results := [.lit (.bool true)], args := [d] }
  | _ => none }
def fnValidQueueRow : OpenClaim := { program := "ythgkkckbncgfmaa", sum := "34e6f0a0301b3a59fc09d326c4fbcbf657311b4c38d4f98814a1f0ee3d3af246", func := "loop.example/loggertree/laws.FnValidQueue", spec := "fnValidQueue", apart := false }
def FnValidQueueSaid : Prop := fnValidQueueRow.holds Try.pinned (OpenSpec.ofChange fnValidQueueSpec)

/-- ITS FALSE NEIGHBOUR: 'it returns false'. Refute it at one input. -/
def fnValidQueueWrong : ChangeSpec := { name := "fnValidQueue", fn := fun _ => fun
  | [d] => { results := [.lit (.bool false)], args := [d] }
  | _ => none }
def FnValidQueueWrongFalsely : Prop := fnValidQueueRow.holds Try.pinned (OpenSpec.ofChange fnValidQueueWrong)

/- THE SECOND FORM. 'bulk': how many values and letters a reading holds, each counted each time it is reached (what is shared counts as often as it is met; a slice's spare places count too). A statement '..UptoSaid' is the law's where the arguments, and the package variables that the reading takes, are together of bulk at most 1048576: NARROWER than '..Said'. Prove '..Said' where nothing that the law and all that it calls make is longer than what came in: it says more and counts as full. Else prove '..UptoSaid'. A law counts once. -/
mutual
def uptoBulk {H : Type} : DataW H → Nat
  | .lit (.string bytes) => bytes.length + 1
  | .lit _ => 1
  | .nil => 1
  | .ptr d => uptoBulk d + 1
  | .slice elems spare => uptoBulkAll elems + uptoBulkAll spare + 1
  | .agg parts => uptoBulkAll parts + 1
  | .iface _ d => uptoBulk d + 1
  | .map entries => uptoBulkEntries entries + 1
  | .held _ => 1
def uptoBulkAll {H : Type} : List (DataW H) → Nat
  | [] => 0
  | d :: r => uptoBulk d + uptoBulkAll r
def uptoBulkEntries {H : Type} : List (Lit × DataW H) → Nat
  | [] => 0
  | x :: r => uptoBulkEntry x + uptoBulkEntries r
def uptoBulkEntry {H : Type} : Lit × DataW H → Nat
  | (.string bytes, d) => bytes.length + uptoBulk d + 1
  | (_, d) => uptoBulk d + 1
 end
def uptoSmall : (H : Type) → List (DataW H) → Bool := fun _ ds => decide (uptoBulkAll ds ≤ 1048576)
def OpenSpec.upto (s : _root_.Go.ChangeSpec) : _root_.Go.OpenSpec := { _root_.Go.OpenSpec.ofChange s with cond := some uptoSmall }

/-- 'laws.FnAtLeast', WHERE WHAT IT READS IS OF BULK AT MOST 1048576: true; the input reads as it did. -/
def fnAtLeastUptoRow : OpenClaim := { program := "ythgkkckbncgfmaa", sum := "34e6f0a0301b3a59fc09d326c4fbcbf657311b4c38d4f98814a1f0ee3d3af246", func := "loop.example/loggertree/laws.FnAtLeast", spec := "fnAtLeast", apart := false, narrowed := true }
def FnAtLeastUptoSaid : Prop := fnAtLeastUptoRow.holds Try.pinned (OpenSpec.upto fnAtLeastSpec)

/-- 'laws.FnDropRepeats', WHERE WHAT IT READS IS OF BULK AT MOST 1048576: true; the input reads as it did. -/
def fnDropRepeatsUptoRow : OpenClaim := { program := "ythgkkckbncgfmaa", sum := "34e6f0a0301b3a59fc09d326c4fbcbf657311b4c38d4f98814a1f0ee3d3af246", func := "loop.example/loggertree/laws.FnDropRepeats", spec := "fnDropRepeats", apart := false, narrowed := true }
def FnDropRepeatsUptoSaid : Prop := fnDropRepeatsUptoRow.holds Try.pinned (OpenSpec.upto fnDropRepeatsSpec)

/-- 'laws.FnValidRecords', WHERE WHAT IT READS IS OF BULK AT MOST 1048576: true; the input reads as it did. -/
def fnValidRecordsUptoRow : OpenClaim := { program := "ythgkkckbncgfmaa", sum := "34e6f0a0301b3a59fc09d326c4fbcbf657311b4c38d4f98814a1f0ee3d3af246", func := "loop.example/loggertree/laws.FnValidRecords", spec := "fnValidRecords", apart := false, narrowed := true }
def FnValidRecordsUptoSaid : Prop := fnValidRecordsUptoRow.holds Try.pinned (OpenSpec.upto fnValidRecordsSpec)

/-- 'laws.FnMergeRecords', WHERE WHAT IT READS IS OF BULK AT MOST 1048576: true; the input reads as it did. -/
def fnMergeRecordsUptoRow : OpenClaim := { program := "ythgkkckbncgfmaa", sum := "34e6f0a0301b3a59fc09d326c4fbcbf657311b4c38d4f98814a1f0ee3d3af246", func := "loop.example/loggertree/laws.FnMergeRecords", spec := "fnMergeRecords", apart := false, narrowed := true }
def FnMergeRecordsUptoSaid : Prop := fnMergeRecordsUptoRow.holds Try.pinned (OpenSpec.upto fnMergeRecordsSpec)

/-- 'laws.FnValidBuffer', WHERE WHAT IT READS IS OF BULK AT MOST 1048576: true; the input reads as it did. -/
def fnValidBufferUptoRow : OpenClaim := { program := "ythgkkckbncgfmaa", sum := "34e6f0a0301b3a59fc09d326c4fbcbf657311b4c38d4f98814a1f0ee3d3af246", func := "loop.example/loggertree/laws.FnValidBuffer", spec := "fnValidBuffer", apart := false, narrowed := true }
def FnValidBufferUptoSaid : Prop := fnValidBufferUptoRow.holds Try.pinned (OpenSpec.upto fnValidBufferSpec)

/-- 'laws.FnFlushBuffer', WHERE WHAT IT READS IS OF BULK AT MOST 1048576: true; the input reads as it did. -/
def fnFlushBufferUptoRow : OpenClaim := { program := "ythgkkckbncgfmaa", sum := "34e6f0a0301b3a59fc09d326c4fbcbf657311b4c38d4f98814a1f0ee3d3af246", func := "loop.example/loggertree/laws.FnFlushBuffer", spec := "fnFlushBuffer", apart := false, narrowed := true }
def FnFlushBufferUptoSaid : Prop := fnFlushBufferUptoRow.holds Try.pinned (OpenSpec.upto fnFlushBufferSpec)

/-- 'laws.FnPushRecord', WHERE WHAT IT READS IS OF BULK AT MOST 1048576: true; the input reads as it did. -/
def fnPushRecordUptoRow : OpenClaim := { program := "ythgkkckbncgfmaa", sum := "34e6f0a0301b3a59fc09d326c4fbcbf657311b4c38d4f98814a1f0ee3d3af246", func := "loop.example/loggertree/laws.FnPushRecord", spec := "fnPushRecord", apart := false, narrowed := true }
def FnPushRecordUptoSaid : Prop := fnPushRecordUptoRow.holds Try.pinned (OpenSpec.upto fnPushRecordSpec)

/-- 'laws.FnValidQueue', WHERE WHAT IT READS IS OF BULK AT MOST 1048576: true; the input reads as it did. -/
def fnValidQueueUptoRow : OpenClaim := { program := "ythgkkckbncgfmaa", sum := "34e6f0a0301b3a59fc09d326c4fbcbf657311b4c38d4f98814a1f0ee3d3af246", func := "loop.example/loggertree/laws.FnValidQueue", spec := "fnValidQueue", apart := false, narrowed := true }
def FnValidQueueUptoSaid : Prop := fnValidQueueUptoRow.holds Try.pinned (OpenSpec.upto fnValidQueueSpec)

end Rows
end Go.Proofs.Ythgkkckbncgfmaa
