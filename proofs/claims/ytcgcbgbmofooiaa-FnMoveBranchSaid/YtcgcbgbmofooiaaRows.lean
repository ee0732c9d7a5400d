/-
  No cell of these rows narrows 'for every input' (looked for: loops, veiled, ifaces, maps, wideKeys, modest, calm, conditions, laid).
  DERIVED. THE GIVEN ROWS OF THIS SEAT. 6 by the template 'for every input the law returns true; each argument reads behind the call as it read before'; 0 by the template 'total and deterministic' (their statements: YtcgcbgbmofooiaaTotals.lean).
  GIVEN WITH THE SEED: the statements are not yours to turn. If you find one false, say at which input.
  Laid BY PROGRAM, IN A SANDBOX (cutbox-rows.mjs): the forced cells as the released guide's own fill.sh prints them over the translation 68f704bc830cf77c… (all of the seat's roots in one cut). By AI agents, Wed Nov 11 2026. No macro, syntax, notation, axiom, sorry.
-/
import Derived.Test.YtcgcbgbmofooiaaChecked
import GoSem.Claim
import GoSem.ClaimJoined
import GoSem.ClaimMapViews
import Derived.JoinedTies
import Derived.KernelRfl
namespace Go.Proofs.Ytcgcbgbmofooiaa
/- THE CELL 'sum', in the pinned program and in every row, IS THE sha256 OF THE DUMP (.gsa) THAT YtcgcbgbmofooiaaProg.lean LOADS. Nothing in Lean hashes anything: it is a label: what it is worth is what the hold of that sum in a sandbox is worth. -/
noncomputable def Try.pinned : Pinned := { name := "ytcgcbgbmofooiaa", sum := "68f704bc830cf77ce9675eb3abadb0a79d2fdd8030963657e3b0f1483b4177cb", checked := Try.checked }
namespace Rows
def none {H : Type} : Left H := { results := [], args := [] }

/-- 'laws.FnBranchOf': WHATEVER THE INPUT: true; the input reads as it did. -/
def fnBranchOfSpec : ChangeSpec := { name := "fnBranchOf", fn := fun _ => fun
  | [d] => { results := [.lit (.bool true)], args := [d] }
  | _ => none }
def fnBranchOfRow : OpenClaim := { program := "ytcgcbgbmofooiaa", sum := "68f704bc830cf77ce9675eb3abadb0a79d2fdd8030963657e3b0f1483b4177cb", func := "loop.example/loggertree/laws.FnBranchOf", spec := "fnBranchOf", unfollowed := true, recurses := true, apart := false }
def FnBranchOfSaid : Prop := fnBranchOfRow.holds Try.pinned (OpenSpec.ofChange fnBranchOfSpec)

/-- ITS FALSE NEIGHBOUR: 'it returns false'. Refute it at one input. -/
def fnBranchOfWrong : ChangeSpec := { name := "fnBranchOf", fn := fun _ => fun
  | [d] => { results := [.lit (.bool false)], args := [d] }
  | _ => none }
def FnBranchOfWrongFalsely : Prop := fnBranchOfRow.holds Try.pinned (OpenSpec.ofChange fnBranchOfWrong)

/-- 'laws.FnSetQuiet': WHATEVER THE INPUT: true; the input reads as it did. -/
def fnSetQuietSpec : ChangeSpec := { name := "fnSetQuiet", fn := fun _ => fun
  | [d] => { results := [.lit (.bool true)], args := [d] }
  | _ => none }
def fnSetQuietRow : OpenClaim := { program := "ytcgcbgbmofooiaa", sum := "68f704bc830cf77ce9675eb3abadb0a79d2fdd8030963657e3b0f1483b4177cb", func := "loop.example/loggertree/laws.FnSetQuiet", spec := "fnSetQuiet", unfollowed := true, recurses := true, apart := false }
def FnSetQuietSaid : Prop := fnSetQuietRow.holds Try.pinned (OpenSpec.ofChange fnSetQuietSpec)

/-- ITS FALSE NEIGHBOUR: 'it returns false'. Refute it at one input. -/
def fnSetQuietWrong : ChangeSpec := { name := "fnSetQuiet", fn := fun _ => fun
  | [d] => { results := [.lit (.bool false)], args := [d] }
  | _ => none }
def FnSetQuietWrongFalsely : Prop := fnSetQuietRow.holds Try.pinned (OpenSpec.ofChange fnSetQuietWrong)

/-- 'laws.FnSetOff': WHATEVER THE INPUT: true; the input reads as it did. -/
def fnSetOffSpec : ChangeSpec := { name := "fnSetOff", fn := fun _ => fun
  | [d] => { results := [.lit (.bool true)], args := [d] }
  | _ => none }
def fnSetOffRow : OpenClaim := { program := "ytcgcbgbmofooiaa", sum := "68f704bc830cf77ce9675eb3abadb0a79d2fdd8030963657e3b0f1483b4177cb", func := "loop.example/loggertree/laws.FnSetOff", spec := "fnSetOff", unfollowed := true, recurses := true, apart := false }
def FnSetOffSaid : Prop := fnSetOffRow.holds Try.pinned (OpenSpec.ofChange fnSetOffSpec)

/-- ITS FALSE NEIGHBOUR: 'it returns false'. Refute it at one input. -/
def fnSetOffWrong : ChangeSpec := { name := "fnSetOff", fn := fun _ => fun
  | [d] => { results := [.lit (.bool false)], args := [d] }
  | _ => none }
def FnSetOffWrongFalsely : Prop := fnSetOffRow.holds Try.pinned (OpenSpec.ofChange fnSetOffWrong)

/-- 'laws.FnSetLevel': WHATEVER THE INPUT: true; the input reads as it did. -/
def fnSetLevelSpec : ChangeSpec := { name := "fnSetLevel", fn := fun _ => fun
  | [d] => { results := [.lit (.bool true)], args := [d] }
  | _ => none }
def fnSetLevelRow : OpenClaim := { program := "ytcgcbgbmofooiaa", sum := "68f704bc830cf77ce9675eb3abadb0a79d2fdd8030963657e3b0f1483b4177cb", func := "loop.example/loggertree/laws.FnSetLevel", spec := "fnSetLevel", unfollowed := true, recurses := true, apart := false }
def FnSetLevelSaid : Prop := fnSetLevelRow.holds Try.pinned (OpenSpec.ofChange fnSetLevelSpec)

/-- ITS FALSE NEIGHBOUR: 'it returns false'. Refute it at one input. -/
def fnSetLevelWrong : ChangeSpec := { name := "fnSetLevel", fn := fun _ => fun
  | [d] => { results := [.lit (.bool false)], args := [d] }
  | _ => none }
def FnSetLevelWrongFalsely : Prop := fnSetLevelRow.holds Try.pinned (OpenSpec.ofChange fnSetLevelWrong)

/-- 'laws.FnMoveBranch': WHATEVER THE INPUT: true; the input reads as it did. -/
def fnMoveBranchSpec : ChangeSpec := { name := "fnMoveBranch", fn := fun _ => fun
  | [d] => { results := [.lit (.bool true)], args := [d] }
  | _ => none }
def fnMoveBranchRow : OpenClaim := { program := "ytcgcbgbmofooiaa", sum := "68f704bc830cf77ce9675eb3abadb0a79d2fdd8030963657e3b0f1483b4177cb", func := "loop.example/loggertree/laws.FnMoveBranch", spec := "fnMoveBranch", unfollowed := true, recurses := true, apart := false }
def FnMoveBranchSaid : Prop := fnMoveBranchRow.holds Try.pinned (OpenSpec.ofChange fnMoveBranchSpec)

/-- ITS FALSE NEIGHBOUR: 'it returns false'. Refute it at one input. -/
def fnMoveBranchWrong : ChangeSpec := { name := "fnMoveBranch", fn := fun _ => fun
  | [d] => { results := [.lit (.bool false)], args := [d] }
  | _ => none }
def FnMoveBranchWrongFalsely : Prop := fnMoveBranchRow.holds Try.pinned (OpenSpec.ofChange fnMoveBranchWrong)

/-- 'laws.FnNameHandler': WHATEVER THE INPUT: true; the input reads as it did. -/
def fnNameHandlerSpec : ChangeSpec := { name := "fnNameHandler", fn := fun _ => fun
  | [d] => { results := [.lit (.bool true)], args := [d] }
  | _ => none }
def fnNameHandlerRow : OpenClaim := { program := "ytcgcbgbmofooiaa", sum := "68f704bc830cf77ce9675eb3abadb0a79d2fdd8030963657e3b0f1483b4177cb", func := "loop.example/loggertree/laws.FnNameHandler", spec := "fnNameHandler", unfollowed := true, recurses := true, apart := false }
def FnNameHandlerSaid : Prop := fnNameHandlerRow.holds Try.pinned (OpenSpec.ofChange fnNameHandlerSpec)

/-- ITS FALSE NEIGHBOUR: 'it returns false'. Refute it at one input. -/
def fnNameHandlerWrong : ChangeSpec := { name := "fnNameHandler", fn := fun _ => fun
  | [d] => { results := [.lit (.bool false)], args := [d] }
  | _ => none }
def FnNameHandlerWrongFalsely : Prop := fnNameHandlerRow.holds Try.pinned (OpenSpec.ofChange fnNameHandlerWrong)

/- THE SECOND FORM. 'bulk': how many values and letters a reading holds, each counted each time it is reached (what is shared counts as often as it is met; a slice's spare places count too). A statement '..UptoSaid' is the law's where the arguments, and the package variables that the reading takes, are together of bulk at most 1048576: NARROWER than '..Said'. Prove '..Said' where nothing that the law and all that it calls make is longer than what came in: it says more and counts as full. Else prove '..UptoSaid'. A law counts once. -/
mutual
def uptoBulk {H : Type} : DataW H → Nat
  | .lit (.string bytes) => bytes.length + 1
  | .lit _ => 1
  | .nil => 1
  | .ptr d => uptoBulk d + 1
  | .slice elems spare => uptoBulkAll elems + uptoBulkAll spare + 1
  | .agg parts => uptoBulkAll parts + 1
  | .iface _ d => uptoBulk d + 1
  | .map entries => uptoBulkEntries entries + 1
  | .held _ => 1
def uptoBulkAll {H : Type} : List (DataW H) → Nat
  | [] => 0
  | d :: r => uptoBulk d + uptoBulkAll r
def uptoBulkEntries {H : Type} : List (Lit × DataW H) → Nat
  | [] => 0
  | x :: r => uptoBulkEntry x + uptoBulkEntries r
def uptoBulkEntry {H : Type} : Lit × DataW H → Nat
  | (.string bytes, d) => bytes.length + uptoBulk d + 1
  | (_, d) => uptoBulk d + 1
 end
def uptoSmall : (H : Type) → List (DataW H) → Bool := fun _ ds => decide (uptoBulkAll ds ≤ 1048576)
def OpenSpec.upto (s : _root_.Go.ChangeSpec) : _root_.Go.OpenSpec := { _root_.Go.OpenSpec.ofChange s with cond := some uptoSmall }

/-- 'laws.FnBranchOf', WHERE WHAT IT READS IS OF BULK AT MOST 1048576: true; the input reads as it did. -/
def fnBranchOfUptoRow : OpenClaim := { program := "ytcgcbgbmofooiaa", sum := "68f704bc830cf77ce9675eb3abadb0a79d2fdd8030963657e3b0f1483b4177cb", func := "loop.example/loggertree/laws.FnBranchOf", spec := "fnBranchOf", unfollowed := true, recurses := true, apart := false, narrowed := true }
def FnBranchOfUptoSaid : Prop := fnBranchOfUptoRow.holds Try.pinned (OpenSpec.upto fnBranchOfSpec)

/-- 'laws.FnSetQuiet', WHERE WHAT IT READS IS OF BULK AT MOST 1048576: true; the input reads as it did. -/
def fnSetQuietUptoRow : OpenClaim := { program := "ytcgcbgbmofooiaa", sum := "68f704bc830cf77ce9675eb3abadb0a79d2fdd8030963657e3b0f1483b4177cb", func := "loop.example/loggertree/laws.FnSetQuiet", spec := "fnSetQuiet", unfollowed := true, recurses := true, apart := false, narrowed := true }
def FnSetQuietUptoSaid : Prop := fnSetQuietUptoRow.holds Try.pinned (OpenSpec.upto fnSetQuietSpec)

/-- 'laws.FnSetOff', WHERE WHAT IT READS IS OF BULK AT MOST 1048576: true; the input reads as it did. -/
def fnSetOffUptoRow : OpenClaim := { program := "ytcgcbgbmofooiaa", sum := "68f704bc830cf77ce9675eb3abadb0a79d2fdd8030963657e3b0f1483b4177cb", func := "loop.example/loggertree/laws.FnSetOff", spec := "fnSetOff", unfollowed := true, recurses := true, apart := false, narrowed := true }
def FnSetOffUptoSaid : Prop := fnSetOffUptoRow.holds Try.pinned (OpenSpec.upto fnSetOffSpec)

/-- 'laws.FnSetLevel', WHERE WHAT IT READS IS OF BULK AT MOST 1048576: true; the input reads as it did. -/
def fnSetLevelUptoRow : OpenClaim := { program := "ytcgcbgbmofooiaa", sum := "68f704bc830cf77ce9675eb3abadb0a79d2fdd8030963657e3b0f1483b4177cb", func := "loop.example/loggertree/laws.FnSetLevel", spec := "fnSetLevel", unfollowed := true, recurses := true, apart := false, narrowed := true }
def FnSetLevelUptoSaid : Prop := fnSetLevelUptoRow.holds Try.pinned (OpenSpec.upto fnSetLevelSpec)

/-- 'laws.FnMoveBranch', WHERE WHAT IT READS IS OF BULK AT MOST 1048576: true; the input reads as it did. -/
def fnMoveBranchUptoRow : OpenClaim := { program := "ytcgcbgbmofooiaa", sum := "68f704bc830cf77ce9675eb3abadb0a79d2fdd8030963657e3b0f1483b4177cb", func := "loop.example/loggertree/laws.FnMoveBranch", spec := "fnMoveBranch", unfollowed := true, recurses := true, apart := false, narrowed := true }
def FnMoveBranchUptoSaid : Prop := fnMoveBranchUptoRow.holds Try.pinned (OpenSpec.upto fnMoveBranchSpec)

/-- 'laws.FnNameHandler', WHERE WHAT IT READS IS OF BULK AT MOST 1048576: true; the input reads as it did. -/
def fnNameHandlerUptoRow : OpenClaim := { program := "ytcgcbgbmofooiaa", sum := "68f704bc830cf77ce9675eb3abadb0a79d2fdd8030963657e3b0f1483b4177cb", func := "loop.example/loggertree/laws.FnNameHandler", spec := "fnNameHandler", unfollowed := true, recurses := true, apart := false, narrowed := true }
def FnNameHandlerUptoSaid : Prop := fnNameHandlerUptoRow.holds Try.pinned (OpenSpec.upto fnNameHandlerSpec)

end Rows
end Go.Proofs.Ytcgcbgbmofooiaa
