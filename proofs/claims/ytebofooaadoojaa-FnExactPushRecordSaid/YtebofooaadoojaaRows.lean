/-
  No cell of these rows narrows 'for every input' (looked for: loops, veiled, ifaces, maps, wideKeys, modest, calm, conditions, laid).
  DERIVED. THE GIVEN ROWS OF THIS SEAT. 8 by the template 'for every input the law returns true; each argument reads behind the call as it read before'; 0 by the template 'total and deterministic' (their statements: YtebofooaadoojaaTotals.lean).
  GIVEN WITH THE SEED: the statements are not yours to turn. If you find one false, say at which input.
  Laid BY PROGRAM, IN A SANDBOX (cutbox-rows.mjs): the forced cells as the released guide's own fill.sh prints them over the translation 0535400a12cd1429… (all of the seat's roots in one cut). By AI agents, Wed Nov 11 2026. No macro, syntax, notation, axiom, sorry.
-/
import Derived.Test.YtebofooaadoojaaChecked
import GoSem.Claim
import GoSem.ClaimJoined
import GoSem.ClaimMapViews
import Derived.JoinedTies
import Derived.KernelRfl
namespace Go.Proofs.Ytebofooaadoojaa
/- THE CELL 'sum', in the pinned program and in every row, IS THE sha256 OF THE DUMP (.gsa) THAT YtebofooaadoojaaProg.lean LOADS. Nothing in Lean hashes anything: it is a label: what it is worth is what the hold of that sum in a sandbox is worth. -/
noncomputable def Try.pinned : Pinned := { name := "ytebofooaadoojaa", sum := "0535400a12cd1429ab6c63230d55281460f78d41353edfcef67716afb24f4626", checked := Try.checked }
namespace Rows
def none {H : Type} : Left H := { results := [], args := [] }

/-- 'laws.FnExactValidBuffer': WHATEVER THE INPUT: true; the input reads as it did. -/
def fnExactValidBufferSpec : ChangeSpec := { name := "fnExactValidBuffer", fn := fun _ => fun
  | [d] => { results := [.lit (.bool true)], args := [d] }
  | _ => none }
def fnExactValidBufferRow : OpenClaim := { program := "ytebofooaadoojaa", sum := "0535400a12cd1429ab6c63230d55281460f78d41353edfcef67716afb24f4626", func := "loop.example/loggertree/laws.FnExactValidBuffer", spec := "fnExactValidBuffer", apart := false }
def FnExactValidBufferSaid : Prop := fnExactValidBufferRow.holds Try.pinned (OpenSpec.ofChange fnExactValidBufferSpec)

/-- ITS FALSE NEIGHBOUR: 'it returns false'. Refute it at one input. -/
def fnExactValidBufferWrong : ChangeSpec := { name := "fnExactValidBuffer", fn := fun _ => fun
  | [d] => { results := [.lit (.bool false)], args := [d] }
  | _ => none }
def FnExactValidBufferWrongFalsely : Prop := fnExactValidBufferRow.holds Try.pinned (OpenSpec.ofChange fnExactValidBufferWrong)

/-- 'laws.FnExactAtLeast': WHATEVER THE INPUT: true; the input reads as it did. -/
def fnExactAtLeastSpec : ChangeSpec := { name := "fnExactAtLeast", fn := fun _ => fun
  | [d1, d2] => { results := [.lit (.bool true)], args := [d1, d2] }
  | _ => none }
def fnExactAtLeastRow : OpenClaim := { program := "ytebofooaadoojaa", sum := "0535400a12cd1429ab6c63230d55281460f78d41353edfcef67716afb24f4626", func := "loop.example/loggertree/laws.FnExactAtLeast", spec := "fnExactAtLeast", apart := false }
def FnExactAtLeastSaid : Prop := fnExactAtLeastRow.holds Try.pinned (OpenSpec.ofChange fnExactAtLeastSpec)

/-- ITS FALSE NEIGHBOUR: 'it returns false'. Refute it at one input. -/
def fnExactAtLeastWrong : ChangeSpec := { name := "fnExactAtLeast", fn := fun _ => fun
  | [d1, d2] => { results := [.lit (.bool false)], args := [d1, d2] }
  | _ => none }
def FnExactAtLeastWrongFalsely : Prop := fnExactAtLeastRow.holds Try.pinned (OpenSpec.ofChange fnExactAtLeastWrong)

/-- 'laws.FnExactPushRecord': WHATEVER THE INPUT: true; the input reads as it did. -/
def fnExactPushRecordSpec : ChangeSpec := { name := "fnExactPushRecord", fn := fun _ => fun
  | [d1, d2] => { results := [.lit (.bool true)], args := [d1, d2] }
  | _ => none }
def fnExactPushRecordRow : OpenClaim := { program := "ytebofooaadoojaa", sum := "0535400a12cd1429ab6c63230d55281460f78d41353edfcef67716afb24f4626", func := "loop.example/loggertree/laws.FnExactPushRecord", spec := "fnExactPushRecord", apart := false }
def FnExactPushRecordSaid : Prop := fnExactPushRecordRow.holds Try.pinned (OpenSpec.ofChange fnExactPushRecordSpec)

/-- ITS FALSE NEIGHBOUR: 'it returns false'. Refute it at one input. -/
def fnExactPushRecordWrong : ChangeSpec := { name := "fnExactPushRecord", fn := fun _ => fun
  | [d1, d2] => { results := [.lit (.bool false)], args := [d1, d2] }
  | _ => none }
def FnExactPushRecordWrongFalsely : Prop := fnExactPushRecordRow.holds Try.pinned (OpenSpec.ofChange fnExactPushRecordWrong)

/-- 'laws.FnExactFlushBuffer': WHATEVER THE INPUT: true; the input reads as it did. -/
def fnExactFlushBufferSpec : ChangeSpec := { name := "fnExactFlushBuffer", fn := fun _ => fun
  | [d] => { results := [.lit (.bool true)], args := [d] }
  | _ => none }
def fnExactFlushBufferRow : OpenClaim := { program := "ytebofooaadoojaa", sum := "0535400a12cd1429ab6c63230d55281460f78d41353edfcef67716afb24f4626", func := "loop.example/loggertree/laws.FnExactFlushBuffer", spec := "fnExactFlushBuffer", apart := false }
def FnExactFlushBufferSaid : Prop := fnExactFlushBufferRow.holds Try.pinned (OpenSpec.ofChange fnExactFlushBufferSpec)

/-- ITS FALSE NEIGHBOUR: 'it returns false'. Refute it at one input. -/
def fnExactFlushBufferWrong : ChangeSpec := { name := "fnExactFlushBuffer", fn := fun _ => fun
  | [d] => { results := [.lit (.bool false)], args := [d] }
  | _ => none }
def FnExactFlushBufferWrongFalsely : Prop := fnExactFlushBufferRow.holds Try.pinned (OpenSpec.ofChange fnExactFlushBufferWrong)

/-- 'laws.FnExactRunBuffer': WHATEVER THE INPUT: true; the input reads as it did. -/
def fnExactRunBufferSpec : ChangeSpec := { name := "fnExactRunBuffer", fn := fun _ => fun
  | [d1, d2] => { results := [.lit (.bool true)], args := [d1, d2] }
  | _ => none }
def fnExactRunBufferRow : OpenClaim := { program := "ytebofooaadoojaa", sum := "0535400a12cd1429ab6c63230d55281460f78d41353edfcef67716afb24f4626", func := "loop.example/loggertree/laws.FnExactRunBuffer", spec := "fnExactRunBuffer", apart := false }
def FnExactRunBufferSaid : Prop := fnExactRunBufferRow.holds Try.pinned (OpenSpec.ofChange fnExactRunBufferSpec)

/-- ITS FALSE NEIGHBOUR: 'it returns false'. Refute it at one input. -/
def fnExactRunBufferWrong : ChangeSpec := { name := "fnExactRunBuffer", fn := fun _ => fun
  | [d1, d2] => { results := [.lit (.bool false)], args := [d1, d2] }
  | _ => none }
def FnExactRunBufferWrongFalsely : Prop := fnExactRunBufferRow.holds Try.pinned (OpenSpec.ofChange fnExactRunBufferWrong)

/-- 'laws.FnExactValidQueue': WHATEVER THE INPUT: true; the input reads as it did. -/
def fnExactValidQueueSpec : ChangeSpec := { name := "fnExactValidQueue", fn := fun _ => fun
  | [d] => { results := [.lit (.bool true)], args := [d] }
  | _ => none }
def fnExactValidQueueRow : OpenClaim := { program := "ytebofooaadoojaa", sum := "0535400a12cd1429ab6c63230d55281460f78d41353edfcef67716afb24f4626", func := "loop.example/loggertree/laws.FnExactValidQueue", spec := "fnExactValidQueue", apart := false }
def FnExactValidQueueSaid : Prop := fnExactValidQueueRow.holds Try.pinned (OpenSpec.ofChange fnExactValidQueueSpec)

/-- ITS FALSE NEIGHBOUR: 'it returns false'. Refute it at one input. -/
def fnExactValidQueueWrong : ChangeSpec := { name := "fnExactValidQueue", fn := fun _ => fun
  | [d] => { results := [.lit (.bool false)], args := [d] }
  | _ => none }
def FnExactValidQueueWrongFalsely : Prop := fnExactValidQueueRow.holds Try.pinned (OpenSpec.ofChange fnExactValidQueueWrong)

/-- 'laws.FnExactPutRecord': WHATEVER THE INPUT: true; the input reads as it did. -/
def fnExactPutRecordSpec : ChangeSpec := { name := "fnExactPutRecord", fn := fun _ => fun
  | [d1, d2] => { results := [.lit (.bool true)], args := [d1, d2] }
  | _ => none }
def fnExactPutRecordRow : OpenClaim := { program := "ytebofooaadoojaa", sum := "0535400a12cd1429ab6c63230d55281460f78d41353edfcef67716afb24f4626", func := "loop.example/loggertree/laws.FnExactPutRecord", spec := "fnExactPutRecord", apart := false }
def FnExactPutRecordSaid : Prop := fnExactPutRecordRow.holds Try.pinned (OpenSpec.ofChange fnExactPutRecordSpec)

/-- ITS FALSE NEIGHBOUR: 'it returns false'. Refute it at one input. -/
def fnExactPutRecordWrong : ChangeSpec := { name := "fnExactPutRecord", fn := fun _ => fun
  | [d1, d2] => { results := [.lit (.bool false)], args := [d1, d2] }
  | _ => none }
def FnExactPutRecordWrongFalsely : Prop := fnExactPutRecordRow.holds Try.pinned (OpenSpec.ofChange fnExactPutRecordWrong)

/-- 'laws.FnExactTakeRecord': WHATEVER THE INPUT: true; the input reads as it did. -/
def fnExactTakeRecordSpec : ChangeSpec := { name := "fnExactTakeRecord", fn := fun _ => fun
  | [d] => { results := [.lit (.bool true)], args := [d] }
  | _ => none }
def fnExactTakeRecordRow : OpenClaim := { program := "ytebofooaadoojaa", sum := "0535400a12cd1429ab6c63230d55281460f78d41353edfcef67716afb24f4626", func := "loop.example/loggertree/laws.FnExactTakeRecord", spec := "fnExactTakeRecord", apart := false }
def FnExactTakeRecordSaid : Prop := fnExactTakeRecordRow.holds Try.pinned (OpenSpec.ofChange fnExactTakeRecordSpec)

/-- ITS FALSE NEIGHBOUR: 'it returns false'. Refute it at one input. -/
def fnExactTakeRecordWrong : ChangeSpec := { name := "fnExactTakeRecord", fn := fun _ => fun
  | [d] => { results := [.lit (.bool false)], args := [d] }
  | _ => none }
def FnExactTakeRecordWrongFalsely : Prop := fnExactTakeRecordRow.holds Try.pinned (OpenSpec.ofChange fnExactTakeRecordWrong)

/- THE SECOND FORM. 'bulk': how many values and letters a reading holds, each counted each time it is reached (what is shared counts as often as it is met; a slice's spare places count too). A statement '..UptoSaid' is the law's where the arguments, and the package variables that the reading takes, are together of bulk at most 1048576: NARROWER than '..Said'. Prove '..Said' where nothing that the law and all that it calls make is longer than what came in: it says more and counts as full. Else prove '..UptoSaid'. A law counts once. -/
mutual
def uptoBulk {H : Type} : DataW H → Nat
  | .lit (.string bytes) => bytes.length + 1
  | .lit _ => 1
  | .nil => 1
  | .ptr d => uptoBulk d + 1
  | .slice elems spare => uptoBulkAll elems + uptoBulkAll spare + 1
  | .agg parts => uptoBulkAll parts + 1
  | .iface _ d => uptoBulk d + 1
  | .map entries => uptoBulkEntries entries + 1
  | .held _ => 1
def uptoBulkAll {H : Type} : List (DataW H) → Nat
  | [] => 0
  | d :: r => uptoBulk d + uptoBulkAll r
def uptoBulkEntries {H : Type} : List (Lit × DataW H) → Nat
  | [] => 0
  | x :: r => uptoBulkEntry x + uptoBulkEntries r
def uptoBulkEntry {H : Type} : Lit × DataW H → Nat
  | (.string bytes, d) => bytes.length + uptoBulk d + 1
  | (_, d) => uptoBulk d + 1
 end
def uptoSmall : (H : Type) → List (DataW H) → Bool := fun _ ds => decide (uptoBulkAll ds ≤ 1048576)
def OpenSpec.upto (s : _root_.Go.ChangeSpec) : _root_.Go.OpenSpec := { _root_.Go.OpenSpec.ofChange s with cond := some uptoSmall }

/-- 'laws.FnExactValidBuffer', WHERE WHAT IT READS IS OF BULK AT MOST 1048576: true; the input reads as it did. -/
def fnExactValidBufferUptoRow : OpenClaim := { program := "ytebofooaadoojaa", sum := "0535400a12cd1429ab6c63230d55281460f78d41353edfcef67716afb24f4626", func := "loop.example/loggertree/laws.FnExactValidBuffer", spec := "fnExactValidBuffer", apart := false, narrowed := true }
def FnExactValidBufferUptoSaid : Prop := fnExactValidBufferUptoRow.holds Try.pinned (OpenSpec.upto fnExactValidBufferSpec)

/-- 'laws.FnExactAtLeast', WHERE WHAT IT READS IS OF BULK AT MOST 1048576: true; the input reads as it did. -/
def fnExactAtLeastUptoRow : OpenClaim := { program := "ytebofooaadoojaa", sum := "0535400a12cd1429ab6c63230d55281460f78d41353edfcef67716afb24f4626", func := "loop.example/loggertree/laws.FnExactAtLeast", spec := "fnExactAtLeast", apart := false, narrowed := true }
def FnExactAtLeastUptoSaid : Prop := fnExactAtLeastUptoRow.holds Try.pinned (OpenSpec.upto fnExactAtLeastSpec)

/-- 'laws.FnExactPushRecord', WHERE WHAT IT READS IS OF BULK AT MOST 1048576: true; the input reads as it did. -/
def fnExactPushRecordUptoRow : OpenClaim := { program := "ytebofooaadoojaa", sum := "0535400a12cd1429ab6c63230d55281460f78d41353edfcef67716afb24f4626", func := "loop.example/loggertree/laws.FnExactPushRecord", spec := "fnExactPushRecord", apart := false, narrowed := true }
def FnExactPushRecordUptoSaid : Prop := fnExactPushRecordUptoRow.holds Try.pinned (OpenSpec.upto fnExactPushRecordSpec)

/-- 'laws.FnExactFlushBuffer', WHERE WHAT IT READS IS OF BULK AT MOST 1048576: true; the input reads as it did. -/
def fnExactFlushBufferUptoRow : OpenClaim := { program := "ytebofooaadoojaa", sum := "0535400a12cd1429ab6c63230d55281460f78d41353edfcef67716afb24f4626", func := "loop.example/loggertree/laws.FnExactFlushBuffer", spec := "fnExactFlushBuffer", apart := false, narrowed := true }
def FnExactFlushBufferUptoSaid : Prop := fnExactFlushBufferUptoRow.holds Try.pinned (OpenSpec.upto fnExactFlushBufferSpec)

/-- 'laws.FnExactRunBuffer', WHERE WHAT IT READS IS OF BULK AT MOST 1048576: true; the input reads as it did. -/
def fnExactRunBufferUptoRow : OpenClaim := { program := "ytebofooaadoojaa", sum := "0535400a12cd1429ab6c63230d55281460f78d41353edfcef67716afb24f4626", func := "loop.example/loggertree/laws.FnExactRunBuffer", spec := "fnExactRunBuffer", apart := false, narrowed := true }
def FnExactRunBufferUptoSaid : Prop := fnExactRunBufferUptoRow.holds Try.pinned (OpenSpec.upto fnExactRunBufferSpec)

/-- 'laws.FnExactValidQueue', WHERE WHAT IT READS IS OF BULK AT MOST 1048576: true; the input reads as it did. -/
def fnExactValidQueueUptoRow : OpenClaim := { program := "ytebofooaadoojaa", sum := "0535400a12cd1429ab6c63230d55281460f78d41353edfcef67716afb24f4626", func := "loop.example/loggertree/laws.FnExactValidQueue", spec := "fnExactValidQueue", apart := false, narrowed := true }
def FnExactValidQueueUptoSaid : Prop := fnExactValidQueueUptoRow.holds Try.pinned (OpenSpec.upto fnExactValidQueueSpec)

/-- 'laws.FnExactPutRecord', WHERE WHAT IT READS IS OF BULK AT MOST 1048576: true; the input reads as it did. -/
def fnExactPutRecordUptoRow : OpenClaim := { program := "ytebofooaadoojaa", sum := "0535400a12cd1429ab6c63230d55281460f78d41353edfcef67716afb24f4626", func := "loop.example/loggertree/laws.FnExactPutRecord", spec := "fnExactPutRecord", apart := false, narrowed := true }
def FnExactPutRecordUptoSaid : Prop := fnExactPutRecordUptoRow.holds Try.pinned (OpenSpec.upto fnExactPutRecordSpec)

/-- 'laws.FnExactTakeRecord', WHERE WHAT IT READS IS OF BULK AT MOST 1048576: true; the input reads as it did. -/
def fnExactTakeRecordUptoRow : OpenClaim := { program := "ytebofooaadoojaa", sum := "0535400a12cd1429ab6c63230d55281460f78d41353edfcef67716afb24f4626", func := "loop.example/loggertree/laws.FnExactTakeRecord", spec := "fnExactTakeRecord", apart := false, narrowed := true }
def FnExactTakeRecordUptoSaid : Prop := fnExactTakeRecordUptoRow.holds Try.pinned (OpenSpec.upto fnExactTakeRecordSpec)

end Rows
end Go.Proofs.Ytebofooaadoojaa
