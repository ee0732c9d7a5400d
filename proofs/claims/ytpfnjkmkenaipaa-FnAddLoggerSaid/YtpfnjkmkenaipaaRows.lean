/-
  No cell of these rows narrows 'for every input' (looked for: loops, veiled, ifaces, maps, wideKeys, modest, calm, conditions, laid).
  DERIVED. THE GIVEN ROWS OF THIS SEAT. 5 by the template 'for every input the law returns true; each argument reads behind the call as it read before'; 0 by the template 'total and deterministic' (their statements: YtpfnjkmkenaipaaTotals.lean).
  GIVEN WITH THE SEED: the statements are not yours to turn. If you find one false, say at which input.
  Laid BY PROGRAM, IN A SANDBOX (cutbox-rows.mjs): the forced cells as the released guide's own fill.sh prints them over the translation 4b30757db07c6f5c… (all of the seat's roots in one cut). By AI agents, Wed Nov 11 2026. No macro, syntax, notation, axiom, sorry.
-/
import Derived.Test.YtpfnjkmkenaipaaChecked
import GoSem.Claim
import GoSem.ClaimJoined
import GoSem.ClaimMapViews
import Derived.JoinedTies
import Derived.KernelRfl
namespace Go.Proofs.Ytpfnjkmkenaipaa
/- THE CELL 'sum', in the pinned program and in every row, IS THE sha256 OF THE DUMP (.gsa) THAT YtpfnjkmkenaipaaProg.lean LOADS. Nothing in Lean hashes anything: it is a label: what it is worth is what the hold of that sum in a sandbox is worth. -/
noncomputable def Try.pinned : Pinned := { name := "ytpfnjkmkenaipaa", sum := "4b30757db07c6f5cba1f81ce66fbb73819536efb9d6c1d31a161fbe9d0b90f2d", checked := Try.checked }
namespace Rows
def none {H : Type} : Left H := { results := [], args := [] }

/-- 'laws.FnExactSpotsOf': WHATEVER THE INPUT: true; the input reads as it did. -/
def fnExactSpotsOfSpec : ChangeSpec := { name := "fnExactSpotsOf", fn := fun _ => fun
  | [d1, d2] => { results := [.lit (.bool true)], args := [d1, d2] }
  | _ => none }
def fnExactSpotsOfRow : OpenClaim := { program := "ytpfnjkmkenaipaa", sum := "4b30757db07c6f5cba1f81ce66fbb73819536efb9d6c1d31a161fbe9d0b90f2d", func := "loop.example/loggertree/laws.FnExactSpotsOf", spec := "fnExactSpotsOf", apart := false }
def FnExactSpotsOfSaid : Prop := fnExactSpotsOfRow.holds Try.pinned (OpenSpec.ofChange fnExactSpotsOfSpec)

/-- ITS FALSE NEIGHBOUR: 'it returns false'. Refute it at one input. -/
def fnExactSpotsOfWrong : ChangeSpec := { name := "fnExactSpotsOf", fn := fun _ => fun
  | [d1, d2] => { results := [.lit (.bool false)], args := [d1, d2] }
  | _ => none }
def FnExactSpotsOfWrongFalsely : Prop := fnExactSpotsOfRow.holds Try.pinned (OpenSpec.ofChange fnExactSpotsOfWrong)

/-- 'laws.FnSetStop': WHATEVER THE INPUT: true; the input reads as it did. -/
def fnSetStopSpec : ChangeSpec := { name := "fnSetStop", fn := fun _ => fun
  | [d] => { results := [.lit (.bool true)], args := [d] }
  | _ => none }
def fnSetStopRow : OpenClaim := { program := "ytpfnjkmkenaipaa", sum := "4b30757db07c6f5cba1f81ce66fbb73819536efb9d6c1d31a161fbe9d0b90f2d", func := "loop.example/loggertree/laws.FnSetStop", spec := "fnSetStop", unfollowed := true, recurses := true, apart := false }
def FnSetStopSaid : Prop := fnSetStopRow.holds Try.pinned (OpenSpec.ofChange fnSetStopSpec)

/-- ITS FALSE NEIGHBOUR: 'it returns false'. Refute it at one input. -/
def fnSetStopWrong : ChangeSpec := { name := "fnSetStop", fn := fun _ => fun
  | [d] => { results := [.lit (.bool false)], args := [d] }
  | _ => none }
def FnSetStopWrongFalsely : Prop := fnSetStopRow.holds Try.pinned (OpenSpec.ofChange fnSetStopWrong)

/-- 'laws.FnUsedHandlers': WHATEVER THE INPUT: true; the input reads as it did. -/
def fnUsedHandlersSpec : ChangeSpec := { name := "fnUsedHandlers", fn := fun _ => fun
  | [d] => { results := [.lit (.bool true)], args := [d] }
  | _ => none }
def fnUsedHandlersRow : OpenClaim := { program := "ytpfnjkmkenaipaa", sum := "4b30757db07c6f5cba1f81ce66fbb73819536efb9d6c1d31a161fbe9d0b90f2d", func := "loop.example/loggertree/laws.FnUsedHandlers", spec := "fnUsedHandlers", apart := false }
def FnUsedHandlersSaid : Prop := fnUsedHandlersRow.holds Try.pinned (OpenSpec.ofChange fnUsedHandlersSpec)

/-- ITS FALSE NEIGHBOUR: 'it returns false'. Refute it at one input. -/
def fnUsedHandlersWrong : ChangeSpec := { name := "fnUsedHandlers", fn := fun _ => fun
  | [d] => { results := [.lit (.bool false)], args := [d] }
  | _ => none }
def FnUsedHandlersWrongFalsely : Prop := fnUsedHandlersRow.holds Try.pinned (OpenSpec.ofChange fnUsedHandlersWrong)

/-- 'laws.FnSpotsOf': WHATEVER THE INPUT: true; the input reads as it did. -/
def fnSpotsOfSpec : ChangeSpec := { name := "fnSpotsOf", fn := fun _ => fun
  | [d] => { results := [.lit (.bool true)], args := [d] }
  | _ => none }
def fnSpotsOfRow : OpenClaim := { program := "ytpfnjkmkenaipaa", sum := "4b30757db07c6f5cba1f81ce66fbb73819536efb9d6c1d31a161fbe9d0b90f2d", func := "loop.example/loggertree/laws.FnSpotsOf", spec := "fnSpotsOf", unfollowed := true, recurses := true, apart := false }
def FnSpotsOfSaid : Prop := fnSpotsOfRow.holds Try.pinned (OpenSpec.ofChange fnSpotsOfSpec)

/-- ITS FALSE NEIGHBOUR: 'it returns false'. Refute it at one input. -/
def fnSpotsOfWrong : ChangeSpec := { name := "fnSpotsOf", fn := fun _ => fun
  | [d] => { results := [.lit (.bool false)], args := [d] }
  | _ => none }
def FnSpotsOfWrongFalsely : Prop := fnSpotsOfRow.holds Try.pinned (OpenSpec.ofChange fnSpotsOfWrong)

/-- 'laws.FnAddLogger': WHATEVER THE INPUT: true; the input reads as it did. -/
def fnAddLoggerSpec : ChangeSpec := { name := "fnAddLogger", fn := fun _ => fun
  | [d] => { results := [.lit (.bool true)], args := [d] }
  | _ => none }
def fnAddLoggerRow : OpenClaim := { program := "ytpfnjkmkenaipaa", sum := "4b30757db07c6f5cba1f81ce66fbb73819536efb9d6c1d31a161fbe9d0b90f2d", func := "loop.example/loggertree/laws.FnAddLogger", spec := "fnAddLogger", unfollowed := true, recurses := true, apart := false }
def FnAddLoggerSaid : Prop := fnAddLoggerRow.holds Try.pinned (OpenSpec.ofChange fnAddLoggerSpec)

/-- ITS FALSE NEIGHBOUR: 'it returns false'. Refute it at one input. -/
def fnAddLoggerWrong : ChangeSpec := { name := "fnAddLogger", fn := fun _ => fun
  | [d] => { results := [.lit (.bool false)], args := [d] }
  | _ => none }
def FnAddLoggerWrongFalsely : Prop := fnAddLoggerRow.holds Try.pinned (OpenSpec.ofChange fnAddLoggerWrong)

/- THE SECOND FORM. 'bulk': how many values and letters a reading holds, each counted each time it is reached (what is shared counts as often as it is met; a slice's spare places count too). A statement '..UptoSaid' is the law's where the arguments, and the package variables that the reading takes, are together of bulk at most 1048576: NARROWER than '..Said'. Prove '..Said' where nothing that the law and all that it calls make is longer than what came in: it says more and counts as full. Else prove '..UptoSaid'. A law counts once. -/
mutual
def uptoBulk {H : Type} : DataW H → Nat
  | .lit (.string bytes) => bytes.length + 1
  | .lit _ => 1
  | .nil => 1
  | .ptr d => uptoBulk d + 1
  | .slice elems spare => uptoBulkAll elems + uptoBulkAll spare + 1
  | .agg parts => uptoBulkAll parts + 1
  | .iface _ d => uptoBulk d + 1
  | .map entries => uptoBulkEntries entries + 1
  | .held _ => 1
def uptoBulkAll {H : Type} : List (DataW H) → Nat
  | [] => 0
  | d :: r => uptoBulk d + uptoBulkAll r
def uptoBulkEntries {H : Type} : List (Lit × DataW H) → Nat
  | [] => 0
  | x :: r => uptoBulkEntry x + uptoBulkEntries r
def uptoBulkEntry {H : Type} : Lit × DataW H → Nat
  | (.string bytes, d) => bytes.length + uptoBulk d + 1
  | (_, d) => uptoBulk d + 1
 end
def uptoSmall : (H : Type) → List (DataW H) → Bool := fun _ ds => decide (uptoBulkAll ds ≤ 1048576)
def OpenSpec.upto (s : _root_.Go.ChangeSpec) : _root_.Go.OpenSpec := { _root_.Go.OpenSpec.ofChange s with cond := some uptoSmall }

/-- 'laws.FnExactSpotsOf', WHERE WHAT IT READS IS OF BULK AT MOST 1048576: true; the input reads as it did. -/
def fnExactSpotsOfUptoRow : OpenClaim := { program := "ytpfnjkmkenaipaa", sum := "4b30757db07c6f5cba1f81ce66fbb73819536efb9d6c1d31a161fbe9d0b90f2d", func := "loop.example/loggertree/laws.FnExactSpotsOf", spec := "fnExactSpotsOf", apart := false, narrowed := true }
def FnExactSpotsOfUptoSaid : Prop := fnExactSpotsOfUptoRow.holds Try.pinned (OpenSpec.upto fnExactSpotsOfSpec)

/-- 'laws.FnSetStop', WHERE WHAT IT READS IS OF BULK AT MOST 1048576: true; the input reads as it did. -/
def fnSetStopUptoRow : OpenClaim := { program := "ytpfnjkmkenaipaa", sum := "4b30757db07c6f5cba1f81ce66fbb73819536efb9d6c1d31a161fbe9d0b90f2d", func := "loop.example/loggertree/laws.FnSetStop", spec := "fnSetStop", unfollowed := true, recurses := true, apart := false, narrowed := true }
def FnSetStopUptoSaid : Prop := fnSetStopUptoRow.holds Try.pinned (OpenSpec.upto fnSetStopSpec)

/-- 'laws.FnUsedHandlers', WHERE WHAT IT READS IS OF BULK AT MOST 1048576: true; the input reads as it did. -/
def fnUsedHandlersUptoRow : OpenClaim := { program := "ytpfnjkmkenaipaa", sum := "4b30757db07c6f5cba1f81ce66fbb73819536efb9d6c1d31a161fbe9d0b90f2d", func := "loop.example/loggertree/laws.FnUsedHandlers", spec := "fnUsedHandlers", apart := false, narrowed := true }
def FnUsedHandlersUptoSaid : Prop := fnUsedHandlersUptoRow.holds Try.pinned (OpenSpec.upto fnUsedHandlersSpec)

/-- 'laws.FnSpotsOf', WHERE WHAT IT READS IS OF BULK AT MOST 1048576: true; the input reads as it did. -/
def fnSpotsOfUptoRow : OpenClaim := { program := "ytpfnjkmkenaipaa", sum := "4b30757db07c6f5cba1f81ce66fbb73819536efb9d6c1d31a161fbe9d0b90f2d", func := "loop.example/loggertree/laws.FnSpotsOf", spec := "fnSpotsOf", unfollowed := true, recurses := true, apart := false, narrowed := true }
def FnSpotsOfUptoSaid : Prop := fnSpotsOfUptoRow.holds Try.pinned (OpenSpec.upto fnSpotsOfSpec)

/-- 'laws.FnAddLogger', WHERE WHAT IT READS IS OF BULK AT MOST 1048576: true; the input reads as it did. -/
def fnAddLoggerUptoRow : OpenClaim := { program := "ytpfnjkmkenaipaa", sum := "4b30757db07c6f5cba1f81ce66fbb73819536efb9d6c1d31a161fbe9d0b90f2d", func := "loop.example/loggertree/laws.FnAddLogger", spec := "fnAddLogger", unfollowed := true, recurses := true, apart := false, narrowed := true }
def FnAddLoggerUptoSaid : Prop := fnAddLoggerUptoRow.holds Try.pinned (OpenSpec.upto fnAddLoggerSpec)

end Rows
end Go.Proofs.Ytpfnjkmkenaipaa
