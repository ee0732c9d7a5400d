/-
  No cell of these rows narrows 'for every input' (looked for: loops, veiled, ifaces, maps, wideKeys, modest, calm, conditions, laid).
  DERIVED. THE GIVEN ROWS OF THIS SEAT. 7 by the template 'for every input the law returns true; each argument reads behind the call as it read before'; 0 by the template 'total and deterministic' (their statements: YtegknepdobmbnaaTotals.lean).
  GIVEN WITH THE SEED: the statements are not yours to turn. If you find one false, say at which input.
  Laid BY PROGRAM, IN A SANDBOX (cutbox-rows.mjs): the forced cells as the released guide's own fill.sh prints them over the translation 4ff13074b865675d… (all of the seat's roots in one cut). By AI agents, Wed Nov 11 2026. No macro, syntax, notation, axiom, sorry.
-/
import Derived.Test.YtegknepdobmbnaaChecked
import GoSem.Claim
import GoSem.ClaimJoined
import GoSem.ClaimMapViews
import Derived.JoinedTies
import Derived.KernelRfl
namespace Go.Proofs.Ytegknepdobmbnaa
/- THE CELL 'sum', in the pinned program and in every row, IS THE sha256 OF THE DUMP (.gsa) THAT YtegknepdobmbnaaProg.lean LOADS. Nothing in Lean hashes anything: it is a label: what it is worth is what the hold of that sum in a sandbox is worth. -/
noncomputable def Try.pinned : Pinned := { name := "ytegknepdobmbnaa", sum := "4ff13074b865675de99cf35e2d9a71df8d4ed062d8ab29f04df491448d330f00", checked := Try.checked }
namespace Rows
def none {H : Type} : Left H := { results := [], args := [] }

/-- 'laws.FnExactAddLogger': WHATEVER THE INPUT: true; the input reads as it did. -/
def fnExactAddLoggerSpec : ChangeSpec := { name := "fnExactAddLogger", fn := fun _ => fun
  | [d1, d2] => { results := [.lit (.bool true)], args := [d1, d2] }
  | _ => none }
def fnExactAddLoggerRow : OpenClaim := { program := "ytegknepdobmbnaa", sum := "4ff13074b865675de99cf35e2d9a71df8d4ed062d8ab29f04df491448d330f00", func := "loop.example/loggertree/laws.FnExactAddLogger", spec := "fnExactAddLogger", unfollowed := true, recurses := true, apart := false }
def FnExactAddLoggerSaid : Prop := fnExactAddLoggerRow.holds Try.pinned (OpenSpec.ofChange fnExactAddLoggerSpec)

/-- ITS FALSE NEIGHBOUR: 'it returns false'. Refute it at one input. -/
def fnExactAddLoggerWrong : ChangeSpec := { name := "fnExactAddLogger", fn := fun _ => fun
  | [d1, d2] => { results := [.lit (.bool false)], args := [d1, d2] }
  | _ => none }
def FnExactAddLoggerWrongFalsely : Prop := fnExactAddLoggerRow.holds Try.pinned (OpenSpec.ofChange fnExactAddLoggerWrong)

/-- 'laws.FnExactDropLogger': WHATEVER THE INPUT: true; the input reads as it did. -/
def fnExactDropLoggerSpec : ChangeSpec := { name := "fnExactDropLogger", fn := fun _ => fun
  | [d1, d2] => { results := [.lit (.bool true)], args := [d1, d2] }
  | _ => none }
def fnExactDropLoggerRow : OpenClaim := { program := "ytegknepdobmbnaa", sum := "4ff13074b865675de99cf35e2d9a71df8d4ed062d8ab29f04df491448d330f00", func := "loop.example/loggertree/laws.FnExactDropLogger", spec := "fnExactDropLogger", unfollowed := true, recurses := true, apart := false }
def FnExactDropLoggerSaid : Prop := fnExactDropLoggerRow.holds Try.pinned (OpenSpec.ofChange fnExactDropLoggerSpec)

/-- ITS FALSE NEIGHBOUR: 'it returns false'. Refute it at one input. -/
def fnExactDropLoggerWrong : ChangeSpec := { name := "fnExactDropLogger", fn := fun _ => fun
  | [d1, d2] => { results := [.lit (.bool false)], args := [d1, d2] }
  | _ => none }
def FnExactDropLoggerWrongFalsely : Prop := fnExactDropLoggerRow.holds Try.pinned (OpenSpec.ofChange fnExactDropLoggerWrong)

/-- 'laws.FnExactSetLevel': WHATEVER THE INPUT: true; the input reads as it did. -/
def fnExactSetLevelSpec : ChangeSpec := { name := "fnExactSetLevel", fn := fun _ => fun
  | [d1, d2, d3] => { results := [.lit (.bool true)], args := [d1, d2, d3] }
  | _ => none }
def fnExactSetLevelRow : OpenClaim := { program := "ytegknepdobmbnaa", sum := "4ff13074b865675de99cf35e2d9a71df8d4ed062d8ab29f04df491448d330f00", func := "loop.example/loggertree/laws.FnExactSetLevel", spec := "fnExactSetLevel", unfollowed := true, recurses := true, apart := false }
def FnExactSetLevelSaid : Prop := fnExactSetLevelRow.holds Try.pinned (OpenSpec.ofChange fnExactSetLevelSpec)

/-- ITS FALSE NEIGHBOUR: 'it returns false'. Refute it at one input. -/
def fnExactSetLevelWrong : ChangeSpec := { name := "fnExactSetLevel", fn := fun _ => fun
  | [d1, d2, d3] => { results := [.lit (.bool false)], args := [d1, d2, d3] }
  | _ => none }
def FnExactSetLevelWrongFalsely : Prop := fnExactSetLevelRow.holds Try.pinned (OpenSpec.ofChange fnExactSetLevelWrong)

/-- 'laws.FnExactSetStop': WHATEVER THE INPUT: true; the input reads as it did. -/
def fnExactSetStopSpec : ChangeSpec := { name := "fnExactSetStop", fn := fun _ => fun
  | [d1, d2, d3] => { results := [.lit (.bool true)], args := [d1, d2, d3] }
  | _ => none }
def fnExactSetStopRow : OpenClaim := { program := "ytegknepdobmbnaa", sum := "4ff13074b865675de99cf35e2d9a71df8d4ed062d8ab29f04df491448d330f00", func := "loop.example/loggertree/laws.FnExactSetStop", spec := "fnExactSetStop", unfollowed := true, recurses := true, apart := false }
def FnExactSetStopSaid : Prop := fnExactSetStopRow.holds Try.pinned (OpenSpec.ofChange fnExactSetStopSpec)

/-- ITS FALSE NEIGHBOUR: 'it returns false'. Refute it at one input. -/
def fnExactSetStopWrong : ChangeSpec := { name := "fnExactSetStop", fn := fun _ => fun
  | [d1, d2, d3] => { results := [.lit (.bool false)], args := [d1, d2, d3] }
  | _ => none }
def FnExactSetStopWrongFalsely : Prop := fnExactSetStopRow.holds Try.pinned (OpenSpec.ofChange fnExactSetStopWrong)

/-- 'laws.FnExactSetOff': WHATEVER THE INPUT: true; the input reads as it did. -/
def fnExactSetOffSpec : ChangeSpec := { name := "fnExactSetOff", fn := fun _ => fun
  | [d1, d2, d3] => { results := [.lit (.bool true)], args := [d1, d2, d3] }
  | _ => none }
def fnExactSetOffRow : OpenClaim := { program := "ytegknepdobmbnaa", sum := "4ff13074b865675de99cf35e2d9a71df8d4ed062d8ab29f04df491448d330f00", func := "loop.example/loggertree/laws.FnExactSetOff", spec := "fnExactSetOff", unfollowed := true, recurses := true, apart := false }
def FnExactSetOffSaid : Prop := fnExactSetOffRow.holds Try.pinned (OpenSpec.ofChange fnExactSetOffSpec)

/-- ITS FALSE NEIGHBOUR: 'it returns false'. Refute it at one input. -/
def fnExactSetOffWrong : ChangeSpec := { name := "fnExactSetOff", fn := fun _ => fun
  | [d1, d2, d3] => { results := [.lit (.bool false)], args := [d1, d2, d3] }
  | _ => none }
def FnExactSetOffWrongFalsely : Prop := fnExactSetOffRow.holds Try.pinned (OpenSpec.ofChange fnExactSetOffWrong)

/-- 'laws.FnExactSetQuiet': WHATEVER THE INPUT: true; the input reads as it did. -/
def fnExactSetQuietSpec : ChangeSpec := { name := "fnExactSetQuiet", fn := fun _ => fun
  | [d1, d2] => { results := [.lit (.bool true)], args := [d1, d2] }
  | _ => none }
def fnExactSetQuietRow : OpenClaim := { program := "ytegknepdobmbnaa", sum := "4ff13074b865675de99cf35e2d9a71df8d4ed062d8ab29f04df491448d330f00", func := "loop.example/loggertree/laws.FnExactSetQuiet", spec := "fnExactSetQuiet", unfollowed := true, recurses := true, apart := false }
def FnExactSetQuietSaid : Prop := fnExactSetQuietRow.holds Try.pinned (OpenSpec.ofChange fnExactSetQuietSpec)

/-- ITS FALSE NEIGHBOUR: 'it returns false'. Refute it at one input. -/
def fnExactSetQuietWrong : ChangeSpec := { name := "fnExactSetQuiet", fn := fun _ => fun
  | [d1, d2] => { results := [.lit (.bool false)], args := [d1, d2] }
  | _ => none }
def FnExactSetQuietWrongFalsely : Prop := fnExactSetQuietRow.holds Try.pinned (OpenSpec.ofChange fnExactSetQuietWrong)

/-- 'laws.FnExactMoveBranch': WHATEVER THE INPUT: true; the input reads as it did. -/
def fnExactMoveBranchSpec : ChangeSpec := { name := "fnExactMoveBranch", fn := fun _ => fun
  | [d1, d2, d3] => { results := [.lit (.bool true)], args := [d1, d2, d3] }
  | _ => none }
def fnExactMoveBranchRow : OpenClaim := { program := "ytegknepdobmbnaa", sum := "4ff13074b865675de99cf35e2d9a71df8d4ed062d8ab29f04df491448d330f00", func := "loop.example/loggertree/laws.FnExactMoveBranch", spec := "fnExactMoveBranch", unfollowed := true, recurses := true, apart := false }
def FnExactMoveBranchSaid : Prop := fnExactMoveBranchRow.holds Try.pinned (OpenSpec.ofChange fnExactMoveBranchSpec)

/-- ITS FALSE NEIGHBOUR: 'it returns false'. Refute it at one input. -/
def fnExactMoveBranchWrong : ChangeSpec := { name := "fnExactMoveBranch", fn := fun _ => fun
  | [d1, d2, d3] => { results := [.lit (.bool false)], args := [d1, d2, d3] }
  | _ => none }
def FnExactMoveBranchWrongFalsely : Prop := fnExactMoveBranchRow.holds Try.pinned (OpenSpec.ofChange fnExactMoveBranchWrong)

/- THE SECOND FORM. 'bulk': how many values and letters a reading holds, each counted each time it is reached (what is shared counts as often as it is met; a slice's spare places count too). A statement '..UptoSaid' is the law's where the arguments, and the package variables that the reading takes, are together of bulk at most 1048576: NARROWER than '..Said'. Prove '..Said' where nothing that the law and all that it calls make is longer than what came in: it says more and counts as full. Else prove '..UptoSaid'. A law counts once. -/
mutual
def uptoBulk {H : Type} : DataW H → Nat
  | .lit (.string bytes) => bytes.length + 1
  | .lit _ => 1
  | .nil => 1
  | .ptr d => uptoBulk d + 1
  | .slice elems spare => uptoBulkAll elems + uptoBulkAll spare + 1
  | .agg parts => uptoBulkAll parts + 1
  | .iface _ d => uptoBulk d + 1
  | .map entries => uptoBulkEntries entries + 1
  | .held _ => 1
def uptoBulkAll {H : Type} : List (DataW H) → Nat
  | [] => 0
  | d :: r => uptoBulk d + uptoBulkAll r
def uptoBulkEntries {H : Type} : List (Lit × DataW H) → Nat
  | [] => 0
  | x :: r => uptoBulkEntry x + uptoBulkEntries r
def uptoBulkEntry {H : Type} : Lit × DataW H → Nat
  | (.string bytes, d) => bytes.length + uptoBulk d + 1
  | (_, d) => uptoBulk d + 1
 end
def uptoSmall : (H : Type) → List (DataW H) → Bool := fun _ ds => decide (uptoBulkAll ds ≤ 1048576)
def OpenSpec.upto (s : _root_.Go.ChangeSpec) : _root_.Go.OpenSpec := { _root_.Go.OpenSpec.ofChange s with cond := some uptoSmall }

/-- 'laws.FnExactAddLogger', WHERE WHAT IT READS IS OF BULK AT MOST 1048576: true; the input reads as it did. -/
def fnExactAddLoggerUptoRow : OpenClaim := { program := "ytegknepdobmbnaa", sum := "4ff13074b865675de99cf35e2d9a71df8d4ed062d8ab29f04df491448d330f00", func := "loop.example/loggertree/laws.FnExactAddLogger", spec := "fnExactAddLogger", unfollowed := true, recurses := true, apart := false, narrowed := true }
def FnExactAddLoggerUptoSaid : Prop := fnExactAddLoggerUptoRow.holds Try.pinned (OpenSpec.upto fnExactAddLoggerSpec)

/-- 'laws.FnExactDropLogger', WHERE WHAT IT READS IS OF BULK AT MOST 1048576: true; the input reads as it did. -/
def fnExactDropLoggerUptoRow : OpenClaim := { program := "ytegknepdobmbnaa", sum := "4ff13074b865675de99cf35e2d9a71df8d4ed062d8ab29f04df491448d330f00", func := "loop.example/loggertree/laws.FnExactDropLogger", spec := "fnExactDropLogger", unfollowed := true, recurses := true, apart := false, narrowed := true }
def FnExactDropLoggerUptoSaid : Prop := fnExactDropLoggerUptoRow.holds Try.pinned (OpenSpec.upto fnExactDropLoggerSpec)

/-- 'laws.FnExactSetLevel', WHERE WHAT IT READS IS OF BULK AT MOST 1048576: true; the input reads as it did. -/
def fnExactSetLevelUptoRow : OpenClaim := { program := "ytegknepdobmbnaa", sum := "4ff13074b865675de99cf35e2d9a71df8d4ed062d8ab29f04df491448d330f00", func := "loop.example/loggertree/laws.FnExactSetLevel", spec := "fnExactSetLevel", unfollowed := true, recurses := true, apart := false, narrowed := true }
def FnExactSetLevelUptoSaid : Prop := fnExactSetLevelUptoRow.holds Try.pinned (OpenSpec.upto fnExactSetLevelSpec)

/-- 'laws.FnExactSetStop', WHERE WHAT IT READS IS OF BULK AT MOST 1048576: true; the input reads as it did. -/
def fnExactSetStopUptoRow : OpenClaim := { program := "ytegknepdobmbnaa", sum := "4ff13074b865675de99cf35e2d9a71df8d4ed062d8ab29f04df491448d330f00", func := "loop.example/loggertree/laws.FnExactSetStop", spec := "fnExactSetStop", unfollowed := true, recurses := true, apart := false, narrowed := true }
def FnExactSetStopUptoSaid : Prop := fnExactSetStopUptoRow.holds Try.pinned (OpenSpec.upto fnExactSetStopSpec)

/-- 'laws.FnExactSetOff', WHERE WHAT IT READS IS OF BULK AT MOST 1048576: true; the input reads as it did. -/
def fnExactSetOffUptoRow : OpenClaim := { program := "ytegknepdobmbnaa", sum := "4ff13074b865675de99cf35e2d9a71df8d4ed062d8ab29f04df491448d330f00", func := "loop.example/loggertree/laws.FnExactSetOff", spec := "fnExactSetOff", unfollowed := true, recurses := true, apart := false, narrowed := true }
def FnExactSetOffUptoSaid : Prop := fnExactSetOffUptoRow.holds Try.pinned (OpenSpec.upto fnExactSetOffSpec)

/-- 'laws.FnExactSetQuiet', WHERE WHAT IT READS IS OF BULK AT MOST 1048576: true; the input reads as it did. -/
def fnExactSetQuietUptoRow : OpenClaim := { program := "ytegknepdobmbnaa", sum := "4ff13074b865675de99cf35e2d9a71df8d4ed062d8ab29f04df491448d330f00", func := "loop.example/loggertree/laws.FnExactSetQuiet", spec := "fnExactSetQuiet", unfollowed := true, recurses := true, apart := false, narrowed := true }
def FnExactSetQuietUptoSaid : Prop := fnExactSetQuietUptoRow.holds Try.pinned (OpenSpec.upto fnExactSetQuietSpec)

/-- 'laws.FnExactMoveBranch', WHERE WHAT IT READS IS OF BULK AT MOST 1048576: true; the input reads as it did. -/
def fnExactMoveBranchUptoRow : OpenClaim := { program := "ytegknepdobmbnaa", sum := "4ff13074b865675de99cf35e2d9a71df8d4ed062d8ab29f04df491448d330f00", func := "loop.example/loggertree/laws.FnExactMoveBranch", spec := "fnExactMoveBranch", unfollowed := true, recurses := true, apart := false, narrowed := true }
def FnExactMoveBranchUptoSaid : Prop := fnExactMoveBranchUptoRow.holds Try.pinned (OpenSpec.upto fnExactMoveBranchSpec)

end Rows
end Go.Proofs.Ytegknepdobmbnaa
