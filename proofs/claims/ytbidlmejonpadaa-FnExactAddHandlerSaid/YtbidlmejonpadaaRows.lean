/-
  No cell of these rows narrows 'for every input' (looked for: loops, veiled, ifaces, maps, wideKeys, modest, calm, conditions, laid).
  DERIVED. THE GIVEN ROWS OF THIS SEAT. 8 by the template 'for every input the law returns true; each argument reads behind the call as it read before'; 0 by the template 'total and deterministic' (their statements: YtbidlmejonpadaaTotals.lean).
  GIVEN WITH THE SEED: the statements are not yours to turn. If you find one false, say at which input.
  Laid BY PROGRAM, IN A SANDBOX (cutbox-rows.mjs): the forced cells as the released guide's own fill.sh prints them over the translation f9a08e8184f27e4e… (all of the seat's roots in one cut). By AI agents, Wed Nov 11 2026. No macro, syntax, notation, axiom, sorry.
-/
import Derived.Test.YtbidlmejonpadaaChecked
import GoSem.Claim
import GoSem.ClaimJoined
import GoSem.ClaimMapViews
import Derived.JoinedTies
import Derived.KernelRfl
namespace Go.Proofs.Ytbidlmejonpadaa
/- THE CELL 'sum', in the pinned program and in every row, IS THE sha256 OF THE DUMP (.gsa) THAT YtbidlmejonpadaaProg.lean LOADS. Nothing in Lean hashes anything: it is a label: what it is worth is what the hold of that sum in a sandbox is worth. -/
noncomputable def Try.pinned : Pinned := { name := "ytbidlmejonpadaa", sum := "f9a08e8184f27e4e1f36de729c27933588f4d7c861b3cb761384931542616929", checked := Try.checked }
namespace Rows
def none {H : Type} : Left H := { results := [], args := [] }

/-- 'laws.FnExactUsersOf': WHATEVER THE INPUT: true; the input reads as it did. -/
def fnExactUsersOfSpec : ChangeSpec := { name := "fnExactUsersOf", fn := fun _ => fun
  | [d1, d2] => { results := [.lit (.bool true)], args := [d1, d2] }
  | _ => none }
def fnExactUsersOfRow : OpenClaim := { program := "ytbidlmejonpadaa", sum := "f9a08e8184f27e4e1f36de729c27933588f4d7c861b3cb761384931542616929", func := "loop.example/loggertree/laws.FnExactUsersOf", spec := "fnExactUsersOf", apart := false }
def FnExactUsersOfSaid : Prop := fnExactUsersOfRow.holds Try.pinned (OpenSpec.ofChange fnExactUsersOfSpec)

/-- ITS FALSE NEIGHBOUR: 'it returns false'. Refute it at one input. -/
def fnExactUsersOfWrong : ChangeSpec := { name := "fnExactUsersOf", fn := fun _ => fun
  | [d1, d2] => { results := [.lit (.bool false)], args := [d1, d2] }
  | _ => none }
def FnExactUsersOfWrongFalsely : Prop := fnExactUsersOfRow.holds Try.pinned (OpenSpec.ofChange fnExactUsersOfWrong)

/-- 'laws.FnExactUsedHandlers': WHATEVER THE INPUT: true; the input reads as it did. -/
def fnExactUsedHandlersSpec : ChangeSpec := { name := "fnExactUsedHandlers", fn := fun _ => fun
  | [d] => { results := [.lit (.bool true)], args := [d] }
  | _ => none }
def fnExactUsedHandlersRow : OpenClaim := { program := "ytbidlmejonpadaa", sum := "f9a08e8184f27e4e1f36de729c27933588f4d7c861b3cb761384931542616929", func := "loop.example/loggertree/laws.FnExactUsedHandlers", spec := "fnExactUsedHandlers", apart := false }
def FnExactUsedHandlersSaid : Prop := fnExactUsedHandlersRow.holds Try.pinned (OpenSpec.ofChange fnExactUsedHandlersSpec)

/-- ITS FALSE NEIGHBOUR: 'it returns false'. Refute it at one input. -/
def fnExactUsedHandlersWrong : ChangeSpec := { name := "fnExactUsedHandlers", fn := fun _ => fun
  | [d] => { results := [.lit (.bool false)], args := [d] }
  | _ => none }
def FnExactUsedHandlersWrongFalsely : Prop := fnExactUsedHandlersRow.holds Try.pinned (OpenSpec.ofChange fnExactUsedHandlersWrong)

/-- 'laws.FnExactAddHandler': WHATEVER THE INPUT: true; the input reads as it did. -/
def fnExactAddHandlerSpec : ChangeSpec := { name := "fnExactAddHandler", fn := fun _ => fun
  | [d1, d2] => { results := [.lit (.bool true)], args := [d1, d2] }
  | _ => none }
def fnExactAddHandlerRow : OpenClaim := { program := "ytbidlmejonpadaa", sum := "f9a08e8184f27e4e1f36de729c27933588f4d7c861b3cb761384931542616929", func := "loop.example/loggertree/laws.FnExactAddHandler", spec := "fnExactAddHandler", unfollowed := true, recurses := true, apart := false }
def FnExactAddHandlerSaid : Prop := fnExactAddHandlerRow.holds Try.pinned (OpenSpec.ofChange fnExactAddHandlerSpec)

/-- ITS FALSE NEIGHBOUR: 'it returns false'. Refute it at one input. -/
def fnExactAddHandlerWrong : ChangeSpec := { name := "fnExactAddHandler", fn := fun _ => fun
  | [d1, d2] => { results := [.lit (.bool false)], args := [d1, d2] }
  | _ => none }
def FnExactAddHandlerWrongFalsely : Prop := fnExactAddHandlerRow.holds Try.pinned (OpenSpec.ofChange fnExactAddHandlerWrong)

/-- 'laws.FnExactNameHandler': WHATEVER THE INPUT: true; the input reads as it did. -/
def fnExactNameHandlerSpec : ChangeSpec := { name := "fnExactNameHandler", fn := fun _ => fun
  | [d1, d2, d3] => { results := [.lit (.bool true)], args := [d1, d2, d3] }
  | _ => none }
def fnExactNameHandlerRow : OpenClaim := { program := "ytbidlmejonpadaa", sum := "f9a08e8184f27e4e1f36de729c27933588f4d7c861b3cb761384931542616929", func := "loop.example/loggertree/laws.FnExactNameHandler", spec := "fnExactNameHandler", unfollowed := true, recurses := true, apart := false }
def FnExactNameHandlerSaid : Prop := fnExactNameHandlerRow.holds Try.pinned (OpenSpec.ofChange fnExactNameHandlerSpec)

/-- ITS FALSE NEIGHBOUR: 'it returns false'. Refute it at one input. -/
def fnExactNameHandlerWrong : ChangeSpec := { name := "fnExactNameHandler", fn := fun _ => fun
  | [d1, d2, d3] => { results := [.lit (.bool false)], args := [d1, d2, d3] }
  | _ => none }
def FnExactNameHandlerWrongFalsely : Prop := fnExactNameHandlerRow.holds Try.pinned (OpenSpec.ofChange fnExactNameHandlerWrong)

/-- 'laws.FnExactAttachHandler': WHATEVER THE INPUT: true; the input reads as it did. -/
def fnExactAttachHandlerSpec : ChangeSpec := { name := "fnExactAttachHandler", fn := fun _ => fun
  | [d1, d2, d3] => { results := [.lit (.bool true)], args := [d1, d2, d3] }
  | _ => none }
def fnExactAttachHandlerRow : OpenClaim := { program := "ytbidlmejonpadaa", sum := "f9a08e8184f27e4e1f36de729c27933588f4d7c861b3cb761384931542616929", func := "loop.example/loggertree/laws.FnExactAttachHandler", spec := "fnExactAttachHandler", unfollowed := true, recurses := true, apart := false }
def FnExactAttachHandlerSaid : Prop := fnExactAttachHandlerRow.holds Try.pinned (OpenSpec.ofChange fnExactAttachHandlerSpec)

/-- ITS FALSE NEIGHBOUR: 'it returns false'. Refute it at one input. -/
def fnExactAttachHandlerWrong : ChangeSpec := { name := "fnExactAttachHandler", fn := fun _ => fun
  | [d1, d2, d3] => { results := [.lit (.bool false)], args := [d1, d2, d3] }
  | _ => none }
def FnExactAttachHandlerWrongFalsely : Prop := fnExactAttachHandlerRow.holds Try.pinned (OpenSpec.ofChange fnExactAttachHandlerWrong)

/-- 'laws.FnExactPatchTree': WHATEVER THE INPUT: true; the input reads as it did. -/
def fnExactPatchTreeSpec : ChangeSpec := { name := "fnExactPatchTree", fn := fun _ => fun
  | [d1, d2] => { results := [.lit (.bool true)], args := [d1, d2] }
  | _ => none }
def fnExactPatchTreeRow : OpenClaim := { program := "ytbidlmejonpadaa", sum := "f9a08e8184f27e4e1f36de729c27933588f4d7c861b3cb761384931542616929", func := "loop.example/loggertree/laws.FnExactPatchTree", spec := "fnExactPatchTree", unfollowed := true, recurses := true, apart := false }
def FnExactPatchTreeSaid : Prop := fnExactPatchTreeRow.holds Try.pinned (OpenSpec.ofChange fnExactPatchTreeSpec)

/-- ITS FALSE NEIGHBOUR: 'it returns false'. Refute it at one input. -/
def fnExactPatchTreeWrong : ChangeSpec := { name := "fnExactPatchTree", fn := fun _ => fun
  | [d1, d2] => { results := [.lit (.bool false)], args := [d1, d2] }
  | _ => none }
def FnExactPatchTreeWrongFalsely : Prop := fnExactPatchTreeRow.holds Try.pinned (OpenSpec.ofChange fnExactPatchTreeWrong)

/-- 'laws.FnExactApplyTree': WHATEVER THE INPUT: true; the input reads as it did. -/
def fnExactApplyTreeSpec : ChangeSpec := { name := "fnExactApplyTree", fn := fun _ => fun
  | [d1, d2] => { results := [.lit (.bool true)], args := [d1, d2] }
  | _ => none }
def fnExactApplyTreeRow : OpenClaim := { program := "ytbidlmejonpadaa", sum := "f9a08e8184f27e4e1f36de729c27933588f4d7c861b3cb761384931542616929", func := "loop.example/loggertree/laws.FnExactApplyTree", spec := "fnExactApplyTree", unfollowed := true, recurses := true, apart := false }
def FnExactApplyTreeSaid : Prop := fnExactApplyTreeRow.holds Try.pinned (OpenSpec.ofChange fnExactApplyTreeSpec)

/-- ITS FALSE NEIGHBOUR: 'it returns false'. Refute it at one input. -/
def fnExactApplyTreeWrong : ChangeSpec := { name := "fnExactApplyTree", fn := fun _ => fun
  | [d1, d2] => { results := [.lit (.bool false)], args := [d1, d2] }
  | _ => none }
def FnExactApplyTreeWrongFalsely : Prop := fnExactApplyTreeRow.holds Try.pinned (OpenSpec.ofChange fnExactApplyTreeWrong)

/-- 'laws.FnUsersOf': WHATEVER THE INPUT: true; the input reads as it did. -/
def fnUsersOfSpec : ChangeSpec := { name := "fnUsersOf", fn := fun _ => fun
  | [d] => { results := [.lit (.bool true)], args := [d] }
  | _ => none }
def fnUsersOfRow : OpenClaim := { program := "ytbidlmejonpadaa", sum := "f9a08e8184f27e4e1f36de729c27933588f4d7c861b3cb761384931542616929", func := "loop.example/loggertree/laws.FnUsersOf", spec := "fnUsersOf", apart := false }
def FnUsersOfSaid : Prop := fnUsersOfRow.holds Try.pinned (OpenSpec.ofChange fnUsersOfSpec)

/-- ITS FALSE NEIGHBOUR: 'it returns false'. Refute it at one input. -/
def fnUsersOfWrong : ChangeSpec := { name := "fnUsersOf", fn := fun _ => fun
  | [d] => { results := [.lit (.bool false)], args := [d] }
  | _ => none }
def FnUsersOfWrongFalsely : Prop := fnUsersOfRow.holds Try.pinned (OpenSpec.ofChange fnUsersOfWrong)

/- THE SECOND FORM. 'bulk': how many values and letters a reading holds, each counted each time it is reached (what is shared counts as often as it is met; a slice's spare places count too). A statement '..UptoSaid' is the law's where the arguments, and the package variables that the reading takes, are together of bulk at most 1048576: NARROWER than '..Said'. Prove '..Said' where nothing that the law and all that it calls make is longer than what came in: it says more and counts as full. Else prove '..UptoSaid'. A law counts once. -/
mutual
def uptoBulk {H : Type} : DataW H → Nat
  | .lit (.string bytes) => bytes.length + 1
  | .lit _ => 1
  | .nil => 1
  | .ptr d => uptoBulk d + 1
  | .slice elems spare => uptoBulkAll elems + uptoBulkAll spare + 1
  | .agg parts => uptoBulkAll parts + 1
  | .iface _ d => uptoBulk d + 1
  | .map entries => uptoBulkEntries entries + 1
  | .held _ => 1
def uptoBulkAll {H : Type} : List (DataW H) → Nat
  | [] => 0
  | d :: r => uptoBulk d + uptoBulkAll r
def uptoBulkEntries {H : Type} : List (Lit × DataW H) → Nat
  | [] => 0
  | x :: r => uptoBulkEntry x + uptoBulkEntries r
def uptoBulkEntry {H : Type} : Lit × DataW H → Nat
  | (.string bytes, d) => bytes.length + uptoBulk d + 1
  | (_, d) => uptoBulk d + 1
 end
def uptoSmall : (H : Type) → List (DataW H) → Bool := fun _ ds => decide (uptoBulkAll ds ≤ 1048576)
def OpenSpec.upto (s : _root_.Go.ChangeSpec) : _root_.Go.OpenSpec := { _root_.Go.OpenSpec.ofChange s with cond := some uptoSmall }

/-- 'laws.FnExactUsersOf', WHERE WHAT IT READS IS OF BULK AT MOST 1048576: true; the input reads as it did. -/
def fnExactUsersOfUptoRow : OpenClaim := { program := "ytbidlmejonpadaa", sum := "f9a08e8184f27e4e1f36de729c27933588f4d7c861b3cb761384931542616929", func := "loop.example/loggertree/laws.FnExactUsersOf", spec := "fnExactUsersOf", apart := false, narrowed := true }
def FnExactUsersOfUptoSaid : Prop := fnExactUsersOfUptoRow.holds Try.pinned (OpenSpec.upto fnExactUsersOfSpec)

/-- 'laws.FnExactUsedHandlers', WHERE WHAT IT READS IS OF BULK AT MOST 1048576: true; the input reads as it did. -/
def fnExactUsedHandlersUptoRow : OpenClaim := { program := "ytbidlmejonpadaa", sum := "f9a08e8184f27e4e1f36de729c27933588f4d7c861b3cb761384931542616929", func := "loop.example/loggertree/laws.FnExactUsedHandlers", spec := "fnExactUsedHandlers", apart := false, narrowed := true }
def FnExactUsedHandlersUptoSaid : Prop := fnExactUsedHandlersUptoRow.holds Try.pinned (OpenSpec.upto fnExactUsedHandlersSpec)

/-- 'laws.FnExactAddHandler', WHERE WHAT IT READS IS OF BULK AT MOST 1048576: true; the input reads as it did. -/
def fnExactAddHandlerUptoRow : OpenClaim := { program := "ytbidlmejonpadaa", sum := "f9a08e8184f27e4e1f36de729c27933588f4d7c861b3cb761384931542616929", func := "loop.example/loggertree/laws.FnExactAddHandler", spec := "fnExactAddHandler", unfollowed := true, recurses := true, apart := false, narrowed := true }
def FnExactAddHandlerUptoSaid : Prop := fnExactAddHandlerUptoRow.holds Try.pinned (OpenSpec.upto fnExactAddHandlerSpec)

/-- 'laws.FnExactNameHandler', WHERE WHAT IT READS IS OF BULK AT MOST 1048576: true; the input reads as it did. -/
def fnExactNameHandlerUptoRow : OpenClaim := { program := "ytbidlmejonpadaa", sum := "f9a08e8184f27e4e1f36de729c27933588f4d7c861b3cb761384931542616929", func := "loop.example/loggertree/laws.FnExactNameHandler", spec := "fnExactNameHandler", unfollowed := true, recurses := true, apart := false, narrowed := true }
def FnExactNameHandlerUptoSaid : Prop := fnExactNameHandlerUptoRow.holds Try.pinned (OpenSpec.upto fnExactNameHandlerSpec)

/-- 'laws.FnExactAttachHandler', WHERE WHAT IT READS IS OF BULK AT MOST 1048576: true; the input reads as it did. -/
def fnExactAttachHandlerUptoRow : OpenClaim := { program := "ytbidlmejonpadaa", sum := "f9a08e8184f27e4e1f36de729c27933588f4d7c861b3cb761384931542616929", func := "loop.example/loggertree/laws.FnExactAttachHandler", spec := "fnExactAttachHandler", unfollowed := true, recurses := true, apart := false, narrowed := true }
def FnExactAttachHandlerUptoSaid : Prop := fnExactAttachHandlerUptoRow.holds Try.pinned (OpenSpec.upto fnExactAttachHandlerSpec)

/-- 'laws.FnExactPatchTree', WHERE WHAT IT READS IS OF BULK AT MOST 1048576: true; the input reads as it did. -/
def fnExactPatchTreeUptoRow : OpenClaim := { program := "ytbidlmejonpadaa", sum := "f9a08e8184f27e4e1f36de729c27933588f4d7c861b3cb761384931542616929", func := "loop.example/loggertree/laws.FnExactPatchTree", spec := "fnExactPatchTree", unfollowed := true, recurses := true, apart := false, narrowed := true }
def FnExactPatchTreeUptoSaid : Prop := fnExactPatchTreeUptoRow.holds Try.pinned (OpenSpec.upto fnExactPatchTreeSpec)

/-- 'laws.FnExactApplyTree', WHERE WHAT IT READS IS OF BULK AT MOST 1048576: true; the input reads as it did. -/
def fnExactApplyTreeUptoRow : OpenClaim := { program := "ytbidlmejonpadaa", sum := "f9a08e8184f27e4e1f36de729c27933588f4d7c861b3cb761384931542616929", func := "loop.example/loggertree/laws.FnExactApplyTree", spec := "fnExactApplyTree", unfollowed := true, recurses := true, apart := false, narrowed := true }
def FnExactApplyTreeUptoSaid : Prop := fnExactApplyTreeUptoRow.holds Try.pinned (OpenSpec.upto fnExactApplyTreeSpec)

/-- 'laws.FnUsersOf', WHERE WHAT IT READS IS OF BULK AT MOST 1048576: true; the input reads as it did. -/
def fnUsersOfUptoRow : OpenClaim := { program := "ytbidlmejonpadaa", sum := "f9a08e8184f27e4e1f36de729c27933588f4d7c861b3cb761384931542616929", func := "loop.example/loggertree/laws.FnUsersOf", spec := "fnUsersOf", apart := false, narrowed := true }
def FnUsersOfUptoSaid : Prop := fnUsersOfUptoRow.holds Try.pinned (OpenSpec.upto fnUsersOfSpec)

end Rows
end Go.Proofs.Ytbidlmejonpadaa
