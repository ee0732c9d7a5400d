/-
  No cell of these rows narrows 'for every input' (looked for: loops, veiled, ifaces, maps, wideKeys, modest, calm, conditions, laid).
  DERIVED. THE GIVEN ROWS OF THIS SEAT. 9 by the template 'for every input the law returns true; each argument reads behind the call as it read before'; 0 by the template 'total and deterministic' (their statements: YteoblmhbjmefoaaTotals.lean).
  GIVEN WITH THE SEED: the statements are not yours to turn. If you find one false, say at which input.
  Laid BY PROGRAM, IN A SANDBOX (cutbox-rows.mjs): the forced cells as the released guide's own fill.sh prints them over the translation 3204e77111a43278… (all of the seat's roots in one cut). By AI agents, Wed Nov 11 2026. No macro, syntax, notation, axiom, sorry.
-/
import Derived.Test.YteoblmhbjmefoaaChecked
import GoSem.Claim
import GoSem.ClaimJoined
import GoSem.ClaimMapViews
import Derived.JoinedTies
import Derived.KernelRfl
namespace Go.Proofs.Yteoblmhbjmefoaa
/- THE CELL 'sum', in the pinned program and in every row, IS THE sha256 OF THE DUMP (.gsa) THAT YteoblmhbjmefoaaProg.lean LOADS. Nothing in Lean hashes anything: it is a label: what it is worth is what the hold of that sum in a sandbox is worth. -/
noncomputable def Try.pinned : Pinned := { name := "yteoblmhbjmefoaa", sum := "3204e77111a43278e4e3669857aad26fe96cd0e3ffd165c8a1d453aaf4748ca6", checked := Try.checked }
namespace Rows
def none {H : Type} : Left H := { results := [], args := [] }

/-- 'laws.FnExactDropLogger': WHATEVER THE INPUT: true; the input reads as it did. -/
def fnExactDropLoggerSpec : ChangeSpec := { name := "fnExactDropLogger", fn := fun _ => fun
  | [d1, d2] => { results := [.lit (.bool true)], args := [d1, d2] }
  | _ => none }
def fnExactDropLoggerRow : OpenClaim := { program := "yteoblmhbjmefoaa", sum := "3204e77111a43278e4e3669857aad26fe96cd0e3ffd165c8a1d453aaf4748ca6", func := "loop.example/loggertree/laws.FnExactDropLogger", spec := "fnExactDropLogger", unfollowed := true, recurses := true, apart := false }
def FnExactDropLoggerSaid : Prop := fnExactDropLoggerRow.holds Try.pinned (OpenSpec.ofChange fnExactDropLoggerSpec)

/-- ITS FALSE NEIGHBOUR: 'it returns false'. Refute it at one input. -/
def fnExactDropLoggerWrong : ChangeSpec := { name := "fnExactDropLogger", fn := fun _ => fun
  | [d1, d2] => { results := [.lit (.bool false)], args := [d1, d2] }
  | _ => none }
def FnExactDropLoggerWrongFalsely : Prop := fnExactDropLoggerRow.holds Try.pinned (OpenSpec.ofChange fnExactDropLoggerWrong)

/-- 'laws.FnExactDropHandler': WHATEVER THE INPUT: true; the input reads as it did. -/
def fnExactDropHandlerSpec : ChangeSpec := { name := "fnExactDropHandler", fn := fun _ => fun
  | [d1, d2] => { results := [.lit (.bool true)], args := [d1, d2] }
  | _ => none }
def fnExactDropHandlerRow : OpenClaim := { program := "yteoblmhbjmefoaa", sum := "3204e77111a43278e4e3669857aad26fe96cd0e3ffd165c8a1d453aaf4748ca6", func := "loop.example/loggertree/laws.FnExactDropHandler", spec := "fnExactDropHandler", unfollowed := true, recurses := true, apart := false }
def FnExactDropHandlerSaid : Prop := fnExactDropHandlerRow.holds Try.pinned (OpenSpec.ofChange fnExactDropHandlerSpec)

/-- ITS FALSE NEIGHBOUR: 'it returns false'. Refute it at one input. -/
def fnExactDropHandlerWrong : ChangeSpec := { name := "fnExactDropHandler", fn := fun _ => fun
  | [d1, d2] => { results := [.lit (.bool false)], args := [d1, d2] }
  | _ => none }
def FnExactDropHandlerWrongFalsely : Prop := fnExactDropHandlerRow.holds Try.pinned (OpenSpec.ofChange fnExactDropHandlerWrong)

/-- 'laws.FnExactDetachHandler': WHATEVER THE INPUT: true; the input reads as it did. -/
def fnExactDetachHandlerSpec : ChangeSpec := { name := "fnExactDetachHandler", fn := fun _ => fun
  | [d1, d2, d3] => { results := [.lit (.bool true)], args := [d1, d2, d3] }
  | _ => none }
def fnExactDetachHandlerRow : OpenClaim := { program := "yteoblmhbjmefoaa", sum := "3204e77111a43278e4e3669857aad26fe96cd0e3ffd165c8a1d453aaf4748ca6", func := "loop.example/loggertree/laws.FnExactDetachHandler", spec := "fnExactDetachHandler", unfollowed := true, recurses := true, apart := false }
def FnExactDetachHandlerSaid : Prop := fnExactDetachHandlerRow.holds Try.pinned (OpenSpec.ofChange fnExactDetachHandlerSpec)

/-- ITS FALSE NEIGHBOUR: 'it returns false'. Refute it at one input. -/
def fnExactDetachHandlerWrong : ChangeSpec := { name := "fnExactDetachHandler", fn := fun _ => fun
  | [d1, d2, d3] => { results := [.lit (.bool false)], args := [d1, d2, d3] }
  | _ => none }
def FnExactDetachHandlerWrongFalsely : Prop := fnExactDetachHandlerRow.holds Try.pinned (OpenSpec.ofChange fnExactDetachHandlerWrong)

/-- 'laws.FnExactDropPlain': WHATEVER THE INPUT: true; the input reads as it did. -/
def fnExactDropPlainSpec : ChangeSpec := { name := "fnExactDropPlain", fn := fun _ => fun
  | [d] => { results := [.lit (.bool true)], args := [d] }
  | _ => none }
def fnExactDropPlainRow : OpenClaim := { program := "yteoblmhbjmefoaa", sum := "3204e77111a43278e4e3669857aad26fe96cd0e3ffd165c8a1d453aaf4748ca6", func := "loop.example/loggertree/laws.FnExactDropPlain", spec := "fnExactDropPlain", unfollowed := true, recurses := true, apart := false }
def FnExactDropPlainSaid : Prop := fnExactDropPlainRow.holds Try.pinned (OpenSpec.ofChange fnExactDropPlainSpec)

/-- ITS FALSE NEIGHBOUR: 'it returns false'. Refute it at one input. -/
def fnExactDropPlainWrong : ChangeSpec := { name := "fnExactDropPlain", fn := fun _ => fun
  | [d] => { results := [.lit (.bool false)], args := [d] }
  | _ => none }
def FnExactDropPlainWrongFalsely : Prop := fnExactDropPlainRow.holds Try.pinned (OpenSpec.ofChange fnExactDropPlainWrong)

/-- 'laws.FnDropLogger': WHATEVER THE INPUT: true; the input reads as it did. -/
def fnDropLoggerSpec : ChangeSpec := { name := "fnDropLogger", fn := fun _ => fun
  | [d] => { results := [.lit (.bool true)], args := [d] }
  | _ => none }
def fnDropLoggerRow : OpenClaim := { program := "yteoblmhbjmefoaa", sum := "3204e77111a43278e4e3669857aad26fe96cd0e3ffd165c8a1d453aaf4748ca6", func := "loop.example/loggertree/laws.FnDropLogger", spec := "fnDropLogger", unfollowed := true, recurses := true, apart := false }
def FnDropLoggerSaid : Prop := fnDropLoggerRow.holds Try.pinned (OpenSpec.ofChange fnDropLoggerSpec)

/-- ITS FALSE NEIGHBOUR: 'it returns false'. Refute it at one input. -/
def fnDropLoggerWrong : ChangeSpec := { name := "fnDropLogger", fn := fun _ => fun
  | [d] => { results := [.lit (.bool false)], args := [d] }
  | _ => none }
def FnDropLoggerWrongFalsely : Prop := fnDropLoggerRow.holds Try.pinned (OpenSpec.ofChange fnDropLoggerWrong)

/-- 'laws.FnDropHandler': WHATEVER THE INPUT: true; the input reads as it did. -/
def fnDropHandlerSpec : ChangeSpec := { name := "fnDropHandler", fn := fun _ => fun
  | [d] => { results := [.lit (.bool true)], args := [d] }
  | _ => none }
def fnDropHandlerRow : OpenClaim := { program := "yteoblmhbjmefoaa", sum := "3204e77111a43278e4e3669857aad26fe96cd0e3ffd165c8a1d453aaf4748ca6", func := "loop.example/loggertree/laws.FnDropHandler", spec := "fnDropHandler", unfollowed := true, recurses := true, apart := false }
def FnDropHandlerSaid : Prop := fnDropHandlerRow.holds Try.pinned (OpenSpec.ofChange fnDropHandlerSpec)

/-- ITS FALSE NEIGHBOUR: 'it returns false'. Refute it at one input. -/
def fnDropHandlerWrong : ChangeSpec := { name := "fnDropHandler", fn := fun _ => fun
  | [d] => { results := [.lit (.bool false)], args := [d] }
  | _ => none }
def FnDropHandlerWrongFalsely : Prop := fnDropHandlerRow.holds Try.pinned (OpenSpec.ofChange fnDropHandlerWrong)

/-- 'laws.FnNameHandler': WHATEVER THE INPUT: true; the input reads as it did. -/
def fnNameHandlerSpec : ChangeSpec := { name := "fnNameHandler", fn := fun _ => fun
  | [d] => { results := [.lit (.bool true)], args := [d] }
  | _ => none }
def fnNameHandlerRow : OpenClaim := { program := "yteoblmhbjmefoaa", sum := "3204e77111a43278e4e3669857aad26fe96cd0e3ffd165c8a1d453aaf4748ca6", func := "loop.example/loggertree/laws.FnNameHandler", spec := "fnNameHandler", unfollowed := true, recurses := true, apart := false }
def FnNameHandlerSaid : Prop := fnNameHandlerRow.holds Try.pinned (OpenSpec.ofChange fnNameHandlerSpec)

/-- ITS FALSE NEIGHBOUR: 'it returns false'. Refute it at one input. -/
def fnNameHandlerWrong : ChangeSpec := { name := "fnNameHandler", fn := fun _ => fun
  | [d] => { results := [.lit (.bool false)], args := [d] }
  | _ => none }
def FnNameHandlerWrongFalsely : Prop := fnNameHandlerRow.holds Try.pinned (OpenSpec.ofChange fnNameHandlerWrong)

/-- 'laws.FnPatchTree': WHATEVER THE INPUT: true; the input reads as it did. -/
def fnPatchTreeSpec : ChangeSpec := { name := "fnPatchTree", fn := fun _ => fun
  | [d] => { results := [.lit (.bool true)], args := [d] }
  | _ => none }
def fnPatchTreeRow : OpenClaim := { program := "yteoblmhbjmefoaa", sum := "3204e77111a43278e4e3669857aad26fe96cd0e3ffd165c8a1d453aaf4748ca6", func := "loop.example/loggertree/laws.FnPatchTree", spec := "fnPatchTree", unfollowed := true, recurses := true, apart := false }
def FnPatchTreeSaid : Prop := fnPatchTreeRow.holds Try.pinned (OpenSpec.ofChange fnPatchTreeSpec)

/-- ITS FALSE NEIGHBOUR: 'it returns false'. Refute it at one input. -/
def fnPatchTreeWrong : ChangeSpec := { name := "fnPatchTree", fn := fun _ => fun
  | [d] => { results := [.lit (.bool false)], args := [d] }
  | _ => none }
def FnPatchTreeWrongFalsely : Prop := fnPatchTreeRow.holds Try.pinned (OpenSpec.ofChange fnPatchTreeWrong)

/-- 'laws.FnDetachHandler': WHATEVER THE INPUT: true; the input reads as it did. -/
def fnDetachHandlerSpec : ChangeSpec := { name := "fnDetachHandler", fn := fun _ => fun
  | [d] => { results := [.lit (.bool true)], args := [d] }
  | _ => none }
def fnDetachHandlerRow : OpenClaim := { program := "yteoblmhbjmefoaa", sum := "3204e77111a43278e4e3669857aad26fe96cd0e3ffd165c8a1d453aaf4748ca6", func := "loop.example/loggertree/laws.FnDetachHandler", spec := "fnDetachHandler", unfollowed := true, recurses := true, apart := false }
def FnDetachHandlerSaid : Prop := fnDetachHandlerRow.holds Try.pinned (OpenSpec.ofChange fnDetachHandlerSpec)

/-- ITS FALSE NEIGHBOUR: 'it returns false'. Refute it at one input. -/
def fnDetachHandlerWrong : ChangeSpec := { name := "fnDetachHandler", fn := fun _ => fun
  | [d] => { results := [.lit (.bool false)], args := [d] }
  | _ => none }
def FnDetachHandlerWrongFalsely : Prop := fnDetachHandlerRow.holds Try.pinned (OpenSpec.ofChange fnDetachHandlerWrong)

/- THE SECOND FORM. 'bulk': how many values and letters a reading holds, each counted each time it is reached (what is shared counts as often as it is met; a slice's spare places count too). A statement '..UptoSaid' is the law's where the arguments, and the package variables that the reading takes, are together of bulk at most 1048576: NARROWER than '..Said'. Prove '..Said' where nothing that the law and all that it calls make is longer than what came in: it says more and counts as full. Else prove '..UptoSaid'. A law counts once. -/
mutual
def uptoBulk {H : Type} : DataW H → Nat
  | .lit (.string bytes) => bytes.length + 1
  | .lit _ => 1
  | .nil => 1
  | .ptr d => uptoBulk d + 1
  | .slice elems spare => uptoBulkAll elems + uptoBulkAll spare + 1
  | .agg parts => uptoBulkAll parts + 1
  | .iface _ d => uptoBulk d + 1
  | .map entries => uptoBulkEntries entries + 1
  | .held _ => 1
def uptoBulkAll {H : Type} : List (DataW H) → Nat
  | [] => 0
  | d :: r => uptoBulk d + uptoBulkAll r
def uptoBulkEntries {H : Type} : List (Lit × DataW H) → Nat
  | [] => 0
  | x :: r => uptoBulkEntry x + uptoBulkEntries r
def uptoBulkEntry {H : Type} : Lit × DataW H → Nat
  | (.string bytes, d) => bytes.length + uptoBulk d + 1
  | (_, d) => uptoBulk d + 1
 end
def uptoSmall : (H : Type) → List (DataW H) → Bool := fun _ ds => decide (uptoBulkAll ds ≤ 1048576)
def OpenSpec.upto (s : _root_.Go.ChangeSpec) : _root_.Go.OpenSpec := { _root_.Go.OpenSpec.ofChange s with cond := some uptoSmall }

/-- 'laws.FnExactDropLogger', WHERE WHAT IT READS IS OF BULK AT MOST 1048576: true; the input reads as it did. -/
def fnExactDropLoggerUptoRow : OpenClaim := { program := "yteoblmhbjmefoaa", sum := "3204e77111a43278e4e3669857aad26fe96cd0e3ffd165c8a1d453aaf4748ca6", func := "loop.example/loggertree/laws.FnExactDropLogger", spec := "fnExactDropLogger", unfollowed := true, recurses := true, apart := false, narrowed := true }
def FnExactDropLoggerUptoSaid : Prop := fnExactDropLoggerUptoRow.holds Try.pinned (OpenSpec.upto fnExactDropLoggerSpec)

/-- 'laws.FnExactDropHandler', WHERE WHAT IT READS IS OF BULK AT MOST 1048576: true; the input reads as it did. -/
def fnExactDropHandlerUptoRow : OpenClaim := { program := "yteoblmhbjmefoaa", sum := "3204e77111a43278e4e3669857aad26fe96cd0e3ffd165c8a1d453aaf4748ca6", func := "loop.example/loggertree/laws.FnExactDropHandler", spec := "fnExactDropHandler", unfollowed := true, recurses := true, apart := false, narrowed := true }
def FnExactDropHandlerUptoSaid : Prop := fnExactDropHandlerUptoRow.holds Try.pinned (OpenSpec.upto fnExactDropHandlerSpec)

/-- 'laws.FnExactDetachHandler', WHERE WHAT IT READS IS OF BULK AT MOST 1048576: true; the input reads as it did. -/
def fnExactDetachHandlerUptoRow : OpenClaim := { program := "yteoblmhbjmefoaa", sum := "3204e77111a43278e4e3669857aad26fe96cd0e3ffd165c8a1d453aaf4748ca6", func := "loop.example/loggertree/laws.FnExactDetachHandler", spec := "fnExactDetachHandler", unfollowed := true, recurses := true, apart := false, narrowed := true }
def FnExactDetachHandlerUptoSaid : Prop := fnExactDetachHandlerUptoRow.holds Try.pinned (OpenSpec.upto fnExactDetachHandlerSpec)

/-- 'laws.FnExactDropPlain', WHERE WHAT IT READS IS OF BULK AT MOST 1048576: true; the input reads as it did. -/
def fnExactDropPlainUptoRow : OpenClaim := { program := "yteoblmhbjmefoaa", sum := "3204e77111a43278e4e3669857aad26fe96cd0e3ffd165c8a1d453aaf4748ca6", func := "loop.example/loggertree/laws.FnExactDropPlain", spec := "fnExactDropPlain", unfollowed := true, recurses := true, apart := false, narrowed := true }
def FnExactDropPlainUptoSaid : Prop := fnExactDropPlainUptoRow.holds Try.pinned (OpenSpec.upto fnExactDropPlainSpec)

/-- 'laws.FnDropLogger', WHERE WHAT IT READS IS OF BULK AT MOST 1048576: true; the input reads as it did. -/
def fnDropLoggerUptoRow : OpenClaim := { program := "yteoblmhbjmefoaa", sum := "3204e77111a43278e4e3669857aad26fe96cd0e3ffd165c8a1d453aaf4748ca6", func := "loop.example/loggertree/laws.FnDropLogger", spec := "fnDropLogger", unfollowed := true, recurses := true, apart := false, narrowed := true }
def FnDropLoggerUptoSaid : Prop := fnDropLoggerUptoRow.holds Try.pinned (OpenSpec.upto fnDropLoggerSpec)

/-- 'laws.FnDropHandler', WHERE WHAT IT READS IS OF BULK AT MOST 1048576: true; the input reads as it did. -/
def fnDropHandlerUptoRow : OpenClaim := { program := "yteoblmhbjmefoaa", sum := "3204e77111a43278e4e3669857aad26fe96cd0e3ffd165c8a1d453aaf4748ca6", func := "loop.example/loggertree/laws.FnDropHandler", spec := "fnDropHandler", unfollowed := true, recurses := true, apart := false, narrowed := true }
def FnDropHandlerUptoSaid : Prop := fnDropHandlerUptoRow.holds Try.pinned (OpenSpec.upto fnDropHandlerSpec)

/-- 'laws.FnNameHandler', WHERE WHAT IT READS IS OF BULK AT MOST 1048576: true; the input reads as it did. -/
def fnNameHandlerUptoRow : OpenClaim := { program := "yteoblmhbjmefoaa", sum := "3204e77111a43278e4e3669857aad26fe96cd0e3ffd165c8a1d453aaf4748ca6", func := "loop.example/loggertree/laws.FnNameHandler", spec := "fnNameHandler", unfollowed := true, recurses := true, apart := false, narrowed := true }
def FnNameHandlerUptoSaid : Prop := fnNameHandlerUptoRow.holds Try.pinned (OpenSpec.upto fnNameHandlerSpec)

/-- 'laws.FnPatchTree', WHERE WHAT IT READS IS OF BULK AT MOST 1048576: true; the input reads as it did. -/
def fnPatchTreeUptoRow : OpenClaim := { program := "yteoblmhbjmefoaa", sum := "3204e77111a43278e4e3669857aad26fe96cd0e3ffd165c8a1d453aaf4748ca6", func := "loop.example/loggertree/laws.FnPatchTree", spec := "fnPatchTree", unfollowed := true, recurses := true, apart := false, narrowed := true }
def FnPatchTreeUptoSaid : Prop := fnPatchTreeUptoRow.holds Try.pinned (OpenSpec.upto fnPatchTreeSpec)

/-- 'laws.FnDetachHandler', WHERE WHAT IT READS IS OF BULK AT MOST 1048576: true; the input reads as it did. -/
def fnDetachHandlerUptoRow : OpenClaim := { program := "yteoblmhbjmefoaa", sum := "3204e77111a43278e4e3669857aad26fe96cd0e3ffd165c8a1d453aaf4748ca6", func := "loop.example/loggertree/laws.FnDetachHandler", spec := "fnDetachHandler", unfollowed := true, recurses := true, apart := false, narrowed := true }
def FnDetachHandlerUptoSaid : Prop := fnDetachHandlerUptoRow.holds Try.pinned (OpenSpec.upto fnDetachHandlerSpec)

end Rows
end Go.Proofs.Yteoblmhbjmefoaa
