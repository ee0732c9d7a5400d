/-
  No cell of these rows narrows 'for every input' (looked for: loops, veiled, ifaces, maps, wideKeys, modest, calm, conditions, laid).
  DERIVED. THE GIVEN ROWS OF THIS SEAT. 3 by the template 'for every input the law returns true; each argument reads behind the call as it read before'; 0 by the template 'total and deterministic' (their statements: YteekkccgdkmjoaaGreatTotals.lean).
  GIVEN WITH THE SEED: the statements are not yours to turn. If you find one false, say at which input.
  Laid BY PROGRAM, IN A SANDBOX (cutbox-rows.mjs): the forced cells as the released guide's own fill.sh prints them over the translation 17abe1059ec3b7c9… (all of the seat's roots in one cut). By AI agents, Wed Nov 11 2026. No macro, syntax, notation, axiom, sorry.
-/
import Derived.Test.YteekkccgdkmjoaaGreatChecked
import GoSem.Claim
import GoSem.ClaimJoined
import GoSem.ClaimMapViews
import Derived.JoinedTies
import Derived.KernelRfl
namespace Go.Proofs.YteekkccgdkmjoaaGreat
/- THE CELL 'sum', in the pinned program and in every row, IS THE sha256 OF THE DUMP (.gsa) THAT YteekkccgdkmjoaaGreatProg.lean LOADS. Nothing in Lean hashes anything: it is a label: what it is worth is what the hold of that sum in a sandbox is worth. -/
noncomputable def Tryz.pinned : Pinned := { name := "yteekkccgdkmjoaagreat", sum := "17abe1059ec3b7c91a7cbf3c4f3b0ef3c0515c2f2b330acf644e6b1f7fe9893d", checked := Tryz.checked }
namespace Rows
def none {H : Type} : Left H := { results := [], args := [] }

/-- 'laws.FnExactSendRecord': WHATEVER THE INPUT: true; the input reads as it did. -/
def fnExactSendRecordSpec : ChangeSpec := { name := "fnExactSendRecord", fn := fun _ => fun
  | [d1, d2] => { results := [.lit (.bool true)], args := [d1, d2] }
  | _ => none }
def fnExactSendRecordRow : OpenClaim := { program := "yteekkccgdkmjoaagreat", sum := "17abe1059ec3b7c91a7cbf3c4f3b0ef3c0515c2f2b330acf644e6b1f7fe9893d", func := "loop.example/loggertree/laws.FnExactSendRecord", spec := "fnExactSendRecord", unfollowed := true, recurses := true, apart := false }
def FnExactSendRecordSaid : Prop := fnExactSendRecordRow.holds Tryz.pinned (OpenSpec.ofChange fnExactSendRecordSpec)

/-- ITS FALSE NEIGHBOUR: 'it returns false'. Refute it at one input. -/
def fnExactSendRecordWrong : ChangeSpec := { name := "fnExactSendRecord", fn := fun _ => fun
  | [d1, d2] => { results := [.lit (.bool false)], args := [d1, d2] }
  | _ => none }
def FnExactSendRecordWrongFalsely : Prop := fnExactSendRecordRow.holds Tryz.pinned (OpenSpec.ofChange fnExactSendRecordWrong)

/-- 'laws.FnExactExplainRecord': WHATEVER THE INPUT: true; the input reads as it did. -/
def fnExactExplainRecordSpec : ChangeSpec := { name := "fnExactExplainRecord", fn := fun _ => fun
  | [d1, d2] => { results := [.lit (.bool true)], args := [d1, d2] }
  | _ => none }
def fnExactExplainRecordRow : OpenClaim := { program := "yteekkccgdkmjoaagreat", sum := "17abe1059ec3b7c91a7cbf3c4f3b0ef3c0515c2f2b330acf644e6b1f7fe9893d", func := "loop.example/loggertree/laws.FnExactExplainRecord", spec := "fnExactExplainRecord", unfollowed := true, recurses := true, apart := false }
def FnExactExplainRecordSaid : Prop := fnExactExplainRecordRow.holds Tryz.pinned (OpenSpec.ofChange fnExactExplainRecordSpec)

/-- ITS FALSE NEIGHBOUR: 'it returns false'. Refute it at one input. -/
def fnExactExplainRecordWrong : ChangeSpec := { name := "fnExactExplainRecord", fn := fun _ => fun
  | [d1, d2] => { results := [.lit (.bool false)], args := [d1, d2] }
  | _ => none }
def FnExactExplainRecordWrongFalsely : Prop := fnExactExplainRecordRow.holds Tryz.pinned (OpenSpec.ofChange fnExactExplainRecordWrong)

/-- 'laws.FnExactRunRecords': WHATEVER THE INPUT: true; the input reads as it did. -/
def fnExactRunRecordsSpec : ChangeSpec := { name := "fnExactRunRecords", fn := fun _ => fun
  | [d1, d2] => { results := [.lit (.bool true)], args := [d1, d2] }
  | _ => none }
def fnExactRunRecordsRow : OpenClaim := { program := "yteekkccgdkmjoaagreat", sum := "17abe1059ec3b7c91a7cbf3c4f3b0ef3c0515c2f2b330acf644e6b1f7fe9893d", func := "loop.example/loggertree/laws.FnExactRunRecords", spec := "fnExactRunRecords", unfollowed := true, recurses := true, apart := false }
def FnExactRunRecordsSaid : Prop := fnExactRunRecordsRow.holds Tryz.pinned (OpenSpec.ofChange fnExactRunRecordsSpec)

/-- ITS FALSE NEIGHBOUR: 'it returns false'. Refute it at one input. -/
def fnExactRunRecordsWrong : ChangeSpec := { name := "fnExactRunRecords", fn := fun _ => fun
  | [d1, d2] => { results := [.lit (.bool false)], args := [d1, d2] }
  | _ => none }
def FnExactRunRecordsWrongFalsely : Prop := fnExactRunRecordsRow.holds Tryz.pinned (OpenSpec.ofChange fnExactRunRecordsWrong)

/- THE SECOND FORM. 'bulk': how many values and letters a reading holds, each counted each time it is reached (what is shared counts as often as it is met; a slice's spare places count too). A statement '..UptoSaid' is the law's where the arguments, and the package variables that the reading takes, are together of bulk at most 1048576: NARROWER than '..Said'. Prove '..Said' where nothing that the law and all that it calls make is longer than what came in: it says more and counts as full. Else prove '..UptoSaid'. A law counts once. -/
mutual
def uptoBulk {H : Type} : DataW H → Nat
  | .lit (.string bytes) => bytes.length + 1
  | .lit _ => 1
  | .nil => 1
  | .ptr d => uptoBulk d + 1
  | .slice elems spare => uptoBulkAll elems + uptoBulkAll spare + 1
  | .agg parts => uptoBulkAll parts + 1
  | .iface _ d => uptoBulk d + 1
  | .map entries => uptoBulkEntries entries + 1
  | .held _ => 1
def uptoBulkAll {H : Type} : List (DataW H) → Nat
  | [] => 0
  | d :: r => uptoBulk d + uptoBulkAll r
def uptoBulkEntries {H : Type} : List (Lit × DataW H) → Nat
  | [] => 0
  | x :: r => uptoBulkEntry x + uptoBulkEntries r
def uptoBulkEntry {H : Type} : Lit × DataW H → Nat
  | (.string bytes, d) => bytes.length + uptoBulk d + 1
  | (_, d) => uptoBulk d + 1
 end
def uptoSmall : (H : Type) → List (DataW H) → Bool := fun _ ds => decide (uptoBulkAll ds ≤ 1048576)
def OpenSpec.upto (s : _root_.Go.ChangeSpec) : _root_.Go.OpenSpec := { _root_.Go.OpenSpec.ofChange s with cond := some uptoSmall }

/-- 'laws.FnExactSendRecord', WHERE WHAT IT READS IS OF BULK AT MOST 1048576: true; the input reads as it did. -/
def fnExactSendRecordUptoRow : OpenClaim := { program := "yteekkccgdkmjoaagreat", sum := "17abe1059ec3b7c91a7cbf3c4f3b0ef3c0515c2f2b330acf644e6b1f7fe9893d", func := "loop.example/loggertree/laws.FnExactSendRecord", spec := "fnExactSendRecord", unfollowed := true, recurses := true, apart := false, narrowed := true }
def FnExactSendRecordUptoSaid : Prop := fnExactSendRecordUptoRow.holds Tryz.pinned (OpenSpec.upto fnExactSendRecordSpec)

/-- 'laws.FnExactExplainRecord', WHERE WHAT IT READS IS OF BULK AT MOST 1048576: true; the input reads as it did. -/
def fnExactExplainRecordUptoRow : OpenClaim := { program := "yteekkccgdkmjoaagreat", sum := "17abe1059ec3b7c91a7cbf3c4f3b0ef3c0515c2f2b330acf644e6b1f7fe9893d", func := "loop.example/loggertree/laws.FnExactExplainRecord", spec := "fnExactExplainRecord", unfollowed := true, recurses := true, apart := false, narrowed := true }
def FnExactExplainRecordUptoSaid : Prop := fnExactExplainRecordUptoRow.holds Tryz.pinned (OpenSpec.upto fnExactExplainRecordSpec)

/-- 'laws.FnExactRunRecords', WHERE WHAT IT READS IS OF BULK AT MOST 1048576: true; the input reads as it did. -/
def fnExactRunRecordsUptoRow : OpenClaim := { program := "yteekkccgdkmjoaagreat", sum := "17abe1059ec3b7c91a7cbf3c4f3b0ef3c0515c2f2b330acf644e6b1f7fe9893d", func := "loop.example/loggertree/laws.FnExactRunRecords", spec := "fnExactRunRecords", unfollowed := true, recurses := true, apart := false, narrowed := true }
def FnExactRunRecordsUptoSaid : Prop := fnExactRunRecordsUptoRow.holds Tryz.pinned (OpenSpec.upto fnExactRunRecordsSpec)

end Rows
end Go.Proofs.YteekkccgdkmjoaaGreat
