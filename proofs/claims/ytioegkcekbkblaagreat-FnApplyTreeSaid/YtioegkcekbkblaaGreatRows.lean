/-
  No cell of these rows narrows 'for every input' (looked for: loops, veiled, ifaces, maps, wideKeys, modest, calm, conditions, laid).
  DERIVED. THE GIVEN ROWS OF THIS SEAT. 8 by the template 'for every input the law returns true; each argument reads behind the call as it read before'; 0 by the template 'total and deterministic' (their statements: YtioegkcekbkblaaGreatTotals.lean).
  GIVEN WITH THE SEED: the statements are not yours to turn. If you find one false, say at which input.
  Laid BY PROGRAM, IN A SANDBOX (cutbox-rows.mjs): the forced cells as the released guide's own fill.sh prints them over the translation b57602c7d3913f7d… (all of the seat's roots in one cut). By AI agents, Wed Nov 11 2026. No macro, syntax, notation, axiom, sorry.
-/
import Derived.Test.YtioegkcekbkblaaGreatChecked
import GoSem.Claim
import GoSem.ClaimJoined
import GoSem.ClaimMapViews
import Derived.JoinedTies
import Derived.KernelRfl
namespace Go.Proofs.YtioegkcekbkblaaGreat
/- THE CELL 'sum', in the pinned program and in every row, IS THE sha256 OF THE DUMP (.gsa) THAT YtioegkcekbkblaaGreatProg.lean LOADS. Nothing in Lean hashes anything: it is a label: what it is worth is what the hold of that sum in a sandbox is worth. -/
noncomputable def Tryz.pinned : Pinned := { name := "ytioegkcekbkblaagreat", sum := "b57602c7d3913f7d613010833058faad5f2772843559d2ea4886a569fdc51f59", checked := Tryz.checked }
namespace Rows
def none {H : Type} : Left H := { results := [], args := [] }

/-- 'laws.FnSendRecord': WHATEVER THE INPUT: true; the input reads as it did. -/
def fnSendRecordSpec : ChangeSpec := { name := "fnSendRecord", fn := fun _ => fun
  | [d] => { results := [.lit (.bool true)], args := [d] }
  | _ => none }
def fnSendRecordRow : OpenClaim := { program := "ytioegkcekbkblaagreat", sum := "b57602c7d3913f7d613010833058faad5f2772843559d2ea4886a569fdc51f59", func := "loop.example/loggertree/laws.FnSendRecord", spec := "fnSendRecord", unfollowed := true, recurses := true, apart := false }
def FnSendRecordSaid : Prop := fnSendRecordRow.holds Tryz.pinned (OpenSpec.ofChange fnSendRecordSpec)

/-- ITS FALSE NEIGHBOUR: 'it returns false'. Refute it at one input. -/
def fnSendRecordWrong : ChangeSpec := { name := "fnSendRecord", fn := fun _ => fun
  | [d] => { results := [.lit (.bool false)], args := [d] }
  | _ => none }
def FnSendRecordWrongFalsely : Prop := fnSendRecordRow.holds Tryz.pinned (OpenSpec.ofChange fnSendRecordWrong)

/-- 'laws.FnSendRecordLevels': WHATEVER THE INPUT: true; the input reads as it did. -/
def fnSendRecordLevelsSpec : ChangeSpec := { name := "fnSendRecordLevels", fn := fun _ => fun
  | [d] => { results := [.lit (.bool true)], args := [d] }
  | _ => none }
def fnSendRecordLevelsRow : OpenClaim := { program := "ytioegkcekbkblaagreat", sum := "b57602c7d3913f7d613010833058faad5f2772843559d2ea4886a569fdc51f59", func := "loop.example/loggertree/laws.FnSendRecordLevels", spec := "fnSendRecordLevels", unfollowed := true, recurses := true, apart := false }
def FnSendRecordLevelsSaid : Prop := fnSendRecordLevelsRow.holds Tryz.pinned (OpenSpec.ofChange fnSendRecordLevelsSpec)

/-- ITS FALSE NEIGHBOUR: 'it returns false'. Refute it at one input. -/
def fnSendRecordLevelsWrong : ChangeSpec := { name := "fnSendRecordLevels", fn := fun _ => fun
  | [d] => { results := [.lit (.bool false)], args := [d] }
  | _ => none }
def FnSendRecordLevelsWrongFalsely : Prop := fnSendRecordLevelsRow.holds Tryz.pinned (OpenSpec.ofChange fnSendRecordLevelsWrong)

/-- 'laws.FnSendRecordPlain': WHATEVER THE INPUT: true; the input reads as it did. -/
def fnSendRecordPlainSpec : ChangeSpec := { name := "fnSendRecordPlain", fn := fun _ => fun
  | [d] => { results := [.lit (.bool true)], args := [d] }
  | _ => none }
def fnSendRecordPlainRow : OpenClaim := { program := "ytioegkcekbkblaagreat", sum := "b57602c7d3913f7d613010833058faad5f2772843559d2ea4886a569fdc51f59", func := "loop.example/loggertree/laws.FnSendRecordPlain", spec := "fnSendRecordPlain", unfollowed := true, recurses := true, apart := false }
def FnSendRecordPlainSaid : Prop := fnSendRecordPlainRow.holds Tryz.pinned (OpenSpec.ofChange fnSendRecordPlainSpec)

/-- ITS FALSE NEIGHBOUR: 'it returns false'. Refute it at one input. -/
def fnSendRecordPlainWrong : ChangeSpec := { name := "fnSendRecordPlain", fn := fun _ => fun
  | [d] => { results := [.lit (.bool false)], args := [d] }
  | _ => none }
def FnSendRecordPlainWrongFalsely : Prop := fnSendRecordPlainRow.holds Tryz.pinned (OpenSpec.ofChange fnSendRecordPlainWrong)

/-- 'laws.FnExplainRecord': WHATEVER THE INPUT: true; the input reads as it did. -/
def fnExplainRecordSpec : ChangeSpec := { name := "fnExplainRecord", fn := fun _ => fun
  | [d] => { results := [.lit (.bool true)], args := [d] }
  | _ => none }
def fnExplainRecordRow : OpenClaim := { program := "ytioegkcekbkblaagreat", sum := "b57602c7d3913f7d613010833058faad5f2772843559d2ea4886a569fdc51f59", func := "loop.example/loggertree/laws.FnExplainRecord", spec := "fnExplainRecord", unfollowed := true, recurses := true, apart := false }
def FnExplainRecordSaid : Prop := fnExplainRecordRow.holds Tryz.pinned (OpenSpec.ofChange fnExplainRecordSpec)

/-- ITS FALSE NEIGHBOUR: 'it returns false'. Refute it at one input. -/
def fnExplainRecordWrong : ChangeSpec := { name := "fnExplainRecord", fn := fun _ => fun
  | [d] => { results := [.lit (.bool false)], args := [d] }
  | _ => none }
def FnExplainRecordWrongFalsely : Prop := fnExplainRecordRow.holds Tryz.pinned (OpenSpec.ofChange fnExplainRecordWrong)

/-- 'laws.FnRunRecords': WHATEVER THE INPUT: true; the input reads as it did. -/
def fnRunRecordsSpec : ChangeSpec := { name := "fnRunRecords", fn := fun _ => fun
  | [d] => { results := [.lit (.bool true)], args := [d] }
  | _ => none }
def fnRunRecordsRow : OpenClaim := { program := "ytioegkcekbkblaagreat", sum := "b57602c7d3913f7d613010833058faad5f2772843559d2ea4886a569fdc51f59", func := "loop.example/loggertree/laws.FnRunRecords", spec := "fnRunRecords", unfollowed := true, recurses := true, apart := false }
def FnRunRecordsSaid : Prop := fnRunRecordsRow.holds Tryz.pinned (OpenSpec.ofChange fnRunRecordsSpec)

/-- ITS FALSE NEIGHBOUR: 'it returns false'. Refute it at one input. -/
def fnRunRecordsWrong : ChangeSpec := { name := "fnRunRecords", fn := fun _ => fun
  | [d] => { results := [.lit (.bool false)], args := [d] }
  | _ => none }
def FnRunRecordsWrongFalsely : Prop := fnRunRecordsRow.holds Tryz.pinned (OpenSpec.ofChange fnRunRecordsWrong)

/-- 'laws.FnAddHandler': WHATEVER THE INPUT: true; the input reads as it did. -/
def fnAddHandlerSpec : ChangeSpec := { name := "fnAddHandler", fn := fun _ => fun
  | [d] => { results := [.lit (.bool true)], args := [d] }
  | _ => none }
def fnAddHandlerRow : OpenClaim := { program := "ytioegkcekbkblaagreat", sum := "b57602c7d3913f7d613010833058faad5f2772843559d2ea4886a569fdc51f59", func := "loop.example/loggertree/laws.FnAddHandler", spec := "fnAddHandler", unfollowed := true, recurses := true, apart := false }
def FnAddHandlerSaid : Prop := fnAddHandlerRow.holds Tryz.pinned (OpenSpec.ofChange fnAddHandlerSpec)

/-- ITS FALSE NEIGHBOUR: 'it returns false'. Refute it at one input. -/
def fnAddHandlerWrong : ChangeSpec := { name := "fnAddHandler", fn := fun _ => fun
  | [d] => { results := [.lit (.bool false)], args := [d] }
  | _ => none }
def FnAddHandlerWrongFalsely : Prop := fnAddHandlerRow.holds Tryz.pinned (OpenSpec.ofChange fnAddHandlerWrong)

/-- 'laws.FnDropPlain': WHATEVER THE INPUT: true; the input reads as it did. -/
def fnDropPlainSpec : ChangeSpec := { name := "fnDropPlain", fn := fun _ => fun
  | [d] => { results := [.lit (.bool true)], args := [d] }
  | _ => none }
def fnDropPlainRow : OpenClaim := { program := "ytioegkcekbkblaagreat", sum := "b57602c7d3913f7d613010833058faad5f2772843559d2ea4886a569fdc51f59", func := "loop.example/loggertree/laws.FnDropPlain", spec := "fnDropPlain", unfollowed := true, recurses := true, apart := false }
def FnDropPlainSaid : Prop := fnDropPlainRow.holds Tryz.pinned (OpenSpec.ofChange fnDropPlainSpec)

/-- ITS FALSE NEIGHBOUR: 'it returns false'. Refute it at one input. -/
def fnDropPlainWrong : ChangeSpec := { name := "fnDropPlain", fn := fun _ => fun
  | [d] => { results := [.lit (.bool false)], args := [d] }
  | _ => none }
def FnDropPlainWrongFalsely : Prop := fnDropPlainRow.holds Tryz.pinned (OpenSpec.ofChange fnDropPlainWrong)

/-- 'laws.FnApplyTree': WHATEVER THE INPUT: true; the input reads as it did. -/
def fnApplyTreeSpec : ChangeSpec := { name := "fnApplyTree", fn := fun _ => fun
  | [d] => { results := [.lit (.bool true)], args := [d] }
  | _ => none }
def fnApplyTreeRow : OpenClaim := { program := "ytioegkcekbkblaagreat", sum := "b57602c7d3913f7d613010833058faad5f2772843559d2ea4886a569fdc51f59", func := "loop.example/loggertree/laws.FnApplyTree", spec := "fnApplyTree", unfollowed := true, recurses := true, apart := false }
def FnApplyTreeSaid : Prop := fnApplyTreeRow.holds Tryz.pinned (OpenSpec.ofChange fnApplyTreeSpec)

/-- ITS FALSE NEIGHBOUR: 'it returns false'. Refute it at one input. -/
def fnApplyTreeWrong : ChangeSpec := { name := "fnApplyTree", fn := fun _ => fun
  | [d] => { results := [.lit (.bool false)], args := [d] }
  | _ => none }
def FnApplyTreeWrongFalsely : Prop := fnApplyTreeRow.holds Tryz.pinned (OpenSpec.ofChange fnApplyTreeWrong)

/- THE SECOND FORM. 'bulk': how many values and letters a reading holds, each counted each time it is reached (what is shared counts as often as it is met; a slice's spare places count too). A statement '..UptoSaid' is the law's where the arguments, and the package variables that the reading takes, are together of bulk at most 1048576: NARROWER than '..Said'. Prove '..Said' where nothing that the law and all that it calls make is longer than what came in: it says more and counts as full. Else prove '..UptoSaid'. A law counts once. -/
mutual
def uptoBulk {H : Type} : DataW H → Nat
  | .lit (.string bytes) => bytes.length + 1
  | .lit _ => 1
  | .nil => 1
  | .ptr d => uptoBulk d + 1
  | .slice elems spare => uptoBulkAll elems + uptoBulkAll spare + 1
  | .agg parts => uptoBulkAll parts + 1
  | .iface _ d => uptoBulk d + 1
  | .map entries => uptoBulkEntries entries + 1
  | .held _ => 1
def uptoBulkAll {H : Type} : List (DataW H) → Nat
  | [] => 0
  | d :: r => uptoBulk d + uptoBulkAll r
def uptoBulkEntries {H : Type} : List (Lit × DataW H) → Nat
  | [] => 0
  | x :: r => uptoBulkEntry x + uptoBulkEntries r
def uptoBulkEntry {H : Type} : Lit × DataW H → Nat
  | (.string bytes, d) => bytes.length + uptoBulk d + 1
  | (_, d) => uptoBulk d + 1
 end
def uptoSmall : (H : Type) → List (DataW H) → Bool := fun _ ds => decide (uptoBulkAll ds ≤ 1048576)
def OpenSpec.upto (s : _root_.Go.ChangeSpec) : _root_.Go.OpenSpec := { _root_.Go.OpenSpec.ofChange s with cond := some uptoSmall }

/-- 'laws.FnSendRecord', WHERE WHAT IT READS IS OF BULK AT MOST 1048576: true; the input reads as it did. -/
def fnSendRecordUptoRow : OpenClaim := { program := "ytioegkcekbkblaagreat", sum := "b57602c7d3913f7d613010833058faad5f2772843559d2ea4886a569fdc51f59", func := "loop.example/loggertree/laws.FnSendRecord", spec := "fnSendRecord", unfollowed := true, recurses := true, apart := false, narrowed := true }
def FnSendRecordUptoSaid : Prop := fnSendRecordUptoRow.holds Tryz.pinned (OpenSpec.upto fnSendRecordSpec)

/-- 'laws.FnSendRecordLevels', WHERE WHAT IT READS IS OF BULK AT MOST 1048576: true; the input reads as it did. -/
def fnSendRecordLevelsUptoRow : OpenClaim := { program := "ytioegkcekbkblaagreat", sum := "b57602c7d3913f7d613010833058faad5f2772843559d2ea4886a569fdc51f59", func := "loop.example/loggertree/laws.FnSendRecordLevels", spec := "fnSendRecordLevels", unfollowed := true, recurses := true, apart := false, narrowed := true }
def FnSendRecordLevelsUptoSaid : Prop := fnSendRecordLevelsUptoRow.holds Tryz.pinned (OpenSpec.upto fnSendRecordLevelsSpec)

/-- 'laws.FnSendRecordPlain', WHERE WHAT IT READS IS OF BULK AT MOST 1048576: true; the input reads as it did. -/
def fnSendRecordPlainUptoRow : OpenClaim := { program := "ytioegkcekbkblaagreat", sum := "b57602c7d3913f7d613010833058faad5f2772843559d2ea4886a569fdc51f59", func := "loop.example/loggertree/laws.FnSendRecordPlain", spec := "fnSendRecordPlain", unfollowed := true, recurses := true, apart := false, narrowed := true }
def FnSendRecordPlainUptoSaid : Prop := fnSendRecordPlainUptoRow.holds Tryz.pinned (OpenSpec.upto fnSendRecordPlainSpec)

/-- 'laws.FnExplainRecord', WHERE WHAT IT READS IS OF BULK AT MOST 1048576: true; the input reads as it did. -/
def fnExplainRecordUptoRow : OpenClaim := { program := "ytioegkcekbkblaagreat", sum := "b57602c7d3913f7d613010833058faad5f2772843559d2ea4886a569fdc51f59", func := "loop.example/loggertree/laws.FnExplainRecord", spec := "fnExplainRecord", unfollowed := true, recurses := true, apart := false, narrowed := true }
def FnExplainRecordUptoSaid : Prop := fnExplainRecordUptoRow.holds Tryz.pinned (OpenSpec.upto fnExplainRecordSpec)

/-- 'laws.FnRunRecords', WHERE WHAT IT READS IS OF BULK AT MOST 1048576: true; the input reads as it did. -/
def fnRunRecordsUptoRow : OpenClaim := { program := "ytioegkcekbkblaagreat", sum := "b57602c7d3913f7d613010833058faad5f2772843559d2ea4886a569fdc51f59", func := "loop.example/loggertree/laws.FnRunRecords", spec := "fnRunRecords", unfollowed := true, recurses := true, apart := false, narrowed := true }
def FnRunRecordsUptoSaid : Prop := fnRunRecordsUptoRow.holds Tryz.pinned (OpenSpec.upto fnRunRecordsSpec)

/-- 'laws.FnAddHandler', WHERE WHAT IT READS IS OF BULK AT MOST 1048576: true; the input reads as it did. -/
def fnAddHandlerUptoRow : OpenClaim := { program := "ytioegkcekbkblaagreat", sum := "b57602c7d3913f7d613010833058faad5f2772843559d2ea4886a569fdc51f59", func := "loop.example/loggertree/laws.FnAddHandler", spec := "fnAddHandler", unfollowed := true, recurses := true, apart := false, narrowed := true }
def FnAddHandlerUptoSaid : Prop := fnAddHandlerUptoRow.holds Tryz.pinned (OpenSpec.upto fnAddHandlerSpec)

/-- 'laws.FnDropPlain', WHERE WHAT IT READS IS OF BULK AT MOST 1048576: true; the input reads as it did. -/
def fnDropPlainUptoRow : OpenClaim := { program := "ytioegkcekbkblaagreat", sum := "b57602c7d3913f7d613010833058faad5f2772843559d2ea4886a569fdc51f59", func := "loop.example/loggertree/laws.FnDropPlain", spec := "fnDropPlain", unfollowed := true, recurses := true, apart := false, narrowed := true }
def FnDropPlainUptoSaid : Prop := fnDropPlainUptoRow.holds Tryz.pinned (OpenSpec.upto fnDropPlainSpec)

/-- 'laws.FnApplyTree', WHERE WHAT IT READS IS OF BULK AT MOST 1048576: true; the input reads as it did. -/
def fnApplyTreeUptoRow : OpenClaim := { program := "ytioegkcekbkblaagreat", sum := "b57602c7d3913f7d613010833058faad5f2772843559d2ea4886a569fdc51f59", func := "loop.example/loggertree/laws.FnApplyTree", spec := "fnApplyTree", unfollowed := true, recurses := true, apart := false, narrowed := true }
def FnApplyTreeUptoSaid : Prop := fnApplyTreeUptoRow.holds Tryz.pinned (OpenSpec.upto fnApplyTreeSpec)

end Rows
end Go.Proofs.YtioegkcekbkblaaGreat
