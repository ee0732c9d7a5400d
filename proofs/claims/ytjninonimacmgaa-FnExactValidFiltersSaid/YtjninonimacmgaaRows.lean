/-
  No cell of these rows narrows 'for every input' (looked for: loops, veiled, ifaces, maps, wideKeys, modest, calm, conditions, laid).
  DERIVED. THE GIVEN ROWS OF THIS SEAT. 9 by the template 'for every input the law returns true; each argument reads behind the call as it read before'; 0 by the template 'total and deterministic' (their statements: YtjninonimacmgaaTotals.lean).
  GIVEN WITH THE SEED: the statements are not yours to turn. If you find one false, say at which input.
  Laid BY PROGRAM, IN A SANDBOX (cutbox-rows.mjs): the forced cells as the released guide's own fill.sh prints them over the translation f2e5c6023e8b90b4… (all of the seat's roots in one cut). By AI agents, Wed Nov 11 2026. No macro, syntax, notation, axiom, sorry.
-/
import Derived.Test.YtjninonimacmgaaChecked
import GoSem.Claim
import GoSem.ClaimJoined
import GoSem.ClaimMapViews
import Derived.JoinedTies
import Derived.KernelRfl
namespace Go.Proofs.Ytjninonimacmgaa
/- THE CELL 'sum', in the pinned program and in every row, IS THE sha256 OF THE DUMP (.gsa) THAT YtjninonimacmgaaProg.lean LOADS. Nothing in Lean hashes anything: it is a label: what it is worth is what the hold of that sum in a sandbox is worth. -/
noncomputable def Try.pinned : Pinned := { name := "ytjninonimacmgaa", sum := "f2e5c6023e8b90b4476d2f5f5b576e783d7045460d7ce378f1312647fe564dee", checked := Try.checked }
namespace Rows
def none {H : Type} : Left H := { results := [], args := [] }

/-- 'laws.FnValidName': WHATEVER THE INPUT: true; the input reads as it did. -/
def fnValidNameSpec : ChangeSpec := { name := "fnValidName", fn := fun _ => fun
  | [d] => { results := [.lit (.bool true)], args := [d] }
  | _ => none }
def fnValidNameRow : OpenClaim := { program := "ytjninonimacmgaa", sum := "f2e5c6023e8b90b4476d2f5f5b576e783d7045460d7ce378f1312647fe564dee", func := "loop.example/loggertree/laws.FnValidName", spec := "fnValidName", apart := false }
def FnValidNameSaid : Prop := fnValidNameRow.holds Try.pinned (OpenSpec.ofChange fnValidNameSpec)

/-- ITS FALSE NEIGHBOUR: 'it returns false'. Refute it at one input. -/
def fnValidNameWrong : ChangeSpec := { name := "fnValidName", fn := fun _ => fun
  | [d] => { results := [.lit (.bool false)], args := [d] }
  | _ => none }
def FnValidNameWrongFalsely : Prop := fnValidNameRow.holds Try.pinned (OpenSpec.ofChange fnValidNameWrong)

/-- 'laws.FnPartsOf': WHATEVER THE INPUT: true; the input reads as it did. -/
def fnPartsOfSpec : ChangeSpec := { name := "fnPartsOf", fn := fun _ => fun
  | [d] => { results := [.lit (.bool true)], args := [d] }
  | _ => none }
def fnPartsOfRow : OpenClaim := { program := "ytjninonimacmgaa", sum := "f2e5c6023e8b90b4476d2f5f5b576e783d7045460d7ce378f1312647fe564dee", func := "loop.example/loggertree/laws.FnPartsOf", spec := "fnPartsOf", apart := false }
def FnPartsOfSaid : Prop := fnPartsOfRow.holds Try.pinned (OpenSpec.ofChange fnPartsOfSpec)

/-- ITS FALSE NEIGHBOUR: 'it returns false'. Refute it at one input. -/
def fnPartsOfWrong : ChangeSpec := { name := "fnPartsOf", fn := fun _ => fun
  | [d] => { results := [.lit (.bool false)], args := [d] }
  | _ => none }
def FnPartsOfWrongFalsely : Prop := fnPartsOfRow.holds Try.pinned (OpenSpec.ofChange fnPartsOfWrong)

/-- 'laws.FnIsBelow': WHATEVER THE INPUT: true; the input reads as it did. -/
def fnIsBelowSpec : ChangeSpec := { name := "fnIsBelow", fn := fun _ => fun
  | [d] => { results := [.lit (.bool true)], args := [d] }
  | _ => none }
def fnIsBelowRow : OpenClaim := { program := "ytjninonimacmgaa", sum := "f2e5c6023e8b90b4476d2f5f5b576e783d7045460d7ce378f1312647fe564dee", func := "loop.example/loggertree/laws.FnIsBelow", spec := "fnIsBelow", apart := false }
def FnIsBelowSaid : Prop := fnIsBelowRow.holds Try.pinned (OpenSpec.ofChange fnIsBelowSpec)

/-- ITS FALSE NEIGHBOUR: 'it returns false'. Refute it at one input. -/
def fnIsBelowWrong : ChangeSpec := { name := "fnIsBelow", fn := fun _ => fun
  | [d] => { results := [.lit (.bool false)], args := [d] }
  | _ => none }
def FnIsBelowWrongFalsely : Prop := fnIsBelowRow.holds Try.pinned (OpenSpec.ofChange fnIsBelowWrong)

/-- 'laws.FnCommonName': WHATEVER THE INPUT: true; the input reads as it did. -/
def fnCommonNameSpec : ChangeSpec := { name := "fnCommonName", fn := fun _ => fun
  | [d] => { results := [.lit (.bool true)], args := [d] }
  | _ => none }
def fnCommonNameRow : OpenClaim := { program := "ytjninonimacmgaa", sum := "f2e5c6023e8b90b4476d2f5f5b576e783d7045460d7ce378f1312647fe564dee", func := "loop.example/loggertree/laws.FnCommonName", spec := "fnCommonName", apart := false }
def FnCommonNameSaid : Prop := fnCommonNameRow.holds Try.pinned (OpenSpec.ofChange fnCommonNameSpec)

/-- ITS FALSE NEIGHBOUR: 'it returns false'. Refute it at one input. -/
def fnCommonNameWrong : ChangeSpec := { name := "fnCommonName", fn := fun _ => fun
  | [d] => { results := [.lit (.bool false)], args := [d] }
  | _ => none }
def FnCommonNameWrongFalsely : Prop := fnCommonNameRow.holds Try.pinned (OpenSpec.ofChange fnCommonNameWrong)

/-- 'laws.FnExactValidName': WHATEVER THE INPUT: true; the input reads as it did. -/
def fnExactValidNameSpec : ChangeSpec := { name := "fnExactValidName", fn := fun _ => fun
  | [d] => { results := [.lit (.bool true)], args := [d] }
  | _ => none }
def fnExactValidNameRow : OpenClaim := { program := "ytjninonimacmgaa", sum := "f2e5c6023e8b90b4476d2f5f5b576e783d7045460d7ce378f1312647fe564dee", func := "loop.example/loggertree/laws.FnExactValidName", spec := "fnExactValidName", apart := false }
def FnExactValidNameSaid : Prop := fnExactValidNameRow.holds Try.pinned (OpenSpec.ofChange fnExactValidNameSpec)

/-- ITS FALSE NEIGHBOUR: 'it returns false'. Refute it at one input. -/
def fnExactValidNameWrong : ChangeSpec := { name := "fnExactValidName", fn := fun _ => fun
  | [d] => { results := [.lit (.bool false)], args := [d] }
  | _ => none }
def FnExactValidNameWrongFalsely : Prop := fnExactValidNameRow.holds Try.pinned (OpenSpec.ofChange fnExactValidNameWrong)

/-- 'laws.FnExactPartsOf': WHATEVER THE INPUT: true; the input reads as it did. -/
def fnExactPartsOfSpec : ChangeSpec := { name := "fnExactPartsOf", fn := fun _ => fun
  | [d] => { results := [.lit (.bool true)], args := [d] }
  | _ => none }
def fnExactPartsOfRow : OpenClaim := { program := "ytjninonimacmgaa", sum := "f2e5c6023e8b90b4476d2f5f5b576e783d7045460d7ce378f1312647fe564dee", func := "loop.example/loggertree/laws.FnExactPartsOf", spec := "fnExactPartsOf", apart := false }
def FnExactPartsOfSaid : Prop := fnExactPartsOfRow.holds Try.pinned (OpenSpec.ofChange fnExactPartsOfSpec)

/-- ITS FALSE NEIGHBOUR: 'it returns false'. Refute it at one input. -/
def fnExactPartsOfWrong : ChangeSpec := { name := "fnExactPartsOf", fn := fun _ => fun
  | [d] => { results := [.lit (.bool false)], args := [d] }
  | _ => none }
def FnExactPartsOfWrongFalsely : Prop := fnExactPartsOfRow.holds Try.pinned (OpenSpec.ofChange fnExactPartsOfWrong)

/-- 'laws.FnExactIsBelow': WHATEVER THE INPUT: true; the input reads as it did. -/
def fnExactIsBelowSpec : ChangeSpec := { name := "fnExactIsBelow", fn := fun _ => fun
  | [d1, d2] => { results := [.lit (.bool true)], args := [d1, d2] }
  | _ => none }
def fnExactIsBelowRow : OpenClaim := { program := "ytjninonimacmgaa", sum := "f2e5c6023e8b90b4476d2f5f5b576e783d7045460d7ce378f1312647fe564dee", func := "loop.example/loggertree/laws.FnExactIsBelow", spec := "fnExactIsBelow", apart := false }
def FnExactIsBelowSaid : Prop := fnExactIsBelowRow.holds Try.pinned (OpenSpec.ofChange fnExactIsBelowSpec)

/-- ITS FALSE NEIGHBOUR: 'it returns false'. Refute it at one input. -/
def fnExactIsBelowWrong : ChangeSpec := { name := "fnExactIsBelow", fn := fun _ => fun
  | [d1, d2] => { results := [.lit (.bool false)], args := [d1, d2] }
  | _ => none }
def FnExactIsBelowWrongFalsely : Prop := fnExactIsBelowRow.holds Try.pinned (OpenSpec.ofChange fnExactIsBelowWrong)

/-- 'laws.FnExactCommonName': WHATEVER THE INPUT: true; the input reads as it did. -/
def fnExactCommonNameSpec : ChangeSpec := { name := "fnExactCommonName", fn := fun _ => fun
  | [d1, d2] => { results := [.lit (.bool true)], args := [d1, d2] }
  | _ => none }
def fnExactCommonNameRow : OpenClaim := { program := "ytjninonimacmgaa", sum := "f2e5c6023e8b90b4476d2f5f5b576e783d7045460d7ce378f1312647fe564dee", func := "loop.example/loggertree/laws.FnExactCommonName", spec := "fnExactCommonName", apart := false }
def FnExactCommonNameSaid : Prop := fnExactCommonNameRow.holds Try.pinned (OpenSpec.ofChange fnExactCommonNameSpec)

/-- ITS FALSE NEIGHBOUR: 'it returns false'. Refute it at one input. -/
def fnExactCommonNameWrong : ChangeSpec := { name := "fnExactCommonName", fn := fun _ => fun
  | [d1, d2] => { results := [.lit (.bool false)], args := [d1, d2] }
  | _ => none }
def FnExactCommonNameWrongFalsely : Prop := fnExactCommonNameRow.holds Try.pinned (OpenSpec.ofChange fnExactCommonNameWrong)

/-- 'laws.FnExactValidFilters': WHATEVER THE INPUT: true; the input reads as it did. -/
def fnExactValidFiltersSpec : ChangeSpec := { name := "fnExactValidFilters", fn := fun _ => fun
  | [d] => { results := [.lit (.bool true)], args := [d] }
  | _ => none }
def fnExactValidFiltersRow : OpenClaim := { program := "ytjninonimacmgaa", sum := "f2e5c6023e8b90b4476d2f5f5b576e783d7045460d7ce378f1312647fe564dee", func := "loop.example/loggertree/laws.FnExactValidFilters", spec := "fnExactValidFilters", apart := false }
def FnExactValidFiltersSaid : Prop := fnExactValidFiltersRow.holds Try.pinned (OpenSpec.ofChange fnExactValidFiltersSpec)

/-- ITS FALSE NEIGHBOUR: 'it returns false'. Refute it at one input. -/
def fnExactValidFiltersWrong : ChangeSpec := { name := "fnExactValidFilters", fn := fun _ => fun
  | [d] => { results := [.lit (.bool false)], args := [d] }
  | _ => none }
def FnExactValidFiltersWrongFalsely : Prop := fnExactValidFiltersRow.holds Try.pinned (OpenSpec.ofChange fnExactValidFiltersWrong)

/- THE SECOND FORM. 'bulk': how many values and letters a reading holds, each counted each time it is reached (what is shared counts as often as it is met; a slice's spare places count too). A statement '..UptoSaid' is the law's where the arguments, and the package variables that the reading takes, are together of bulk at most 1048576: NARROWER than '..Said'. Prove '..Said' where nothing that the law and all that it calls make is longer than what came in: it says more and counts as full. Else prove '..UptoSaid'. A law counts once. -/
mutual
def uptoBulk {H : Type} : DataW H → Nat
  | .lit (.string bytes) => bytes.length + 1
  | .lit _ => 1
  | .nil => 1
  | .ptr d => uptoBulk d + 1
  | .slice elems spare => uptoBulkAll elems + uptoBulkAll spare + 1
  | .agg parts => uptoBulkAll parts + 1
  | .iface _ d => uptoBulk d + 1
  | .map entries => uptoBulkEntries entries + 1
  | .held _ => 1
def uptoBulkAll {H : Type} : List (DataW H) → Nat
  | [] => 0
  | d :: r => uptoBulk d + uptoBulkAll r
def uptoBulkEntries {H : Type} : List (Lit × DataW H) → Nat
  | [] => 0
  | x :: r => uptoBulkEntry x + uptoBulkEntries r
def uptoBulkEntry {H : Type} : Lit × DataW H → Nat
  | (.string bytes, d) => bytes.length + uptoBulk d + 1
  | (_, d) => uptoBulk d + 1
 end
def uptoSmall : (H : Type) → List (DataW H) → Bool := fun _ ds => decide (uptoBulkAll ds ≤ 1048576)
def OpenSpec.upto (s : _root_.Go.ChangeSpec) : _root_.Go.OpenSpec := { _root_.Go.OpenSpec.ofChange s with cond := some uptoSmall }

/-- 'laws.FnValidName', WHERE WHAT IT READS IS OF BULK AT MOST 1048576: true; the input reads as it did. -/
def fnValidNameUptoRow : OpenClaim := { program := "ytjninonimacmgaa", sum := "f2e5c6023e8b90b4476d2f5f5b576e783d7045460d7ce378f1312647fe564dee", func := "loop.example/loggertree/laws.FnValidName", spec := "fnValidName", apart := false, narrowed := true }
def FnValidNameUptoSaid : Prop := fnValidNameUptoRow.holds Try.pinned (OpenSpec.upto fnValidNameSpec)

/-- 'laws.FnPartsOf', WHERE WHAT IT READS IS OF BULK AT MOST 1048576: true; the input reads as it did. -/
def fnPartsOfUptoRow : OpenClaim := { program := "ytjninonimacmgaa", sum := "f2e5c6023e8b90b4476d2f5f5b576e783d7045460d7ce378f1312647fe564dee", func := "loop.example/loggertree/laws.FnPartsOf", spec := "fnPartsOf", apart := false, narrowed := true }
def FnPartsOfUptoSaid : Prop := fnPartsOfUptoRow.holds Try.pinned (OpenSpec.upto fnPartsOfSpec)

/-- 'laws.FnIsBelow', WHERE WHAT IT READS IS OF BULK AT MOST 1048576: true; the input reads as it did. -/
def fnIsBelowUptoRow : OpenClaim := { program := "ytjninonimacmgaa", sum := "f2e5c6023e8b90b4476d2f5f5b576e783d7045460d7ce378f1312647fe564dee", func := "loop.example/loggertree/laws.FnIsBelow", spec := "fnIsBelow", apart := false, narrowed := true }
def FnIsBelowUptoSaid : Prop := fnIsBelowUptoRow.holds Try.pinned (OpenSpec.upto fnIsBelowSpec)

/-- 'laws.FnCommonName', WHERE WHAT IT READS IS OF BULK AT MOST 1048576: true; the input reads as it did. -/
def fnCommonNameUptoRow : OpenClaim := { program := "ytjninonimacmgaa", sum := "f2e5c6023e8b90b4476d2f5f5b576e783d7045460d7ce378f1312647fe564dee", func := "loop.example/loggertree/laws.FnCommonName", spec := "fnCommonName", apart := false, narrowed := true }
def FnCommonNameUptoSaid : Prop := fnCommonNameUptoRow.holds Try.pinned (OpenSpec.upto fnCommonNameSpec)

/-- 'laws.FnExactValidName', WHERE WHAT IT READS IS OF BULK AT MOST 1048576: true; the input reads as it did. -/
def fnExactValidNameUptoRow : OpenClaim := { program := "ytjninonimacmgaa", sum := "f2e5c6023e8b90b4476d2f5f5b576e783d7045460d7ce378f1312647fe564dee", func := "loop.example/loggertree/laws.FnExactValidName", spec := "fnExactValidName", apart := false, narrowed := true }
def FnExactValidNameUptoSaid : Prop := fnExactValidNameUptoRow.holds Try.pinned (OpenSpec.upto fnExactValidNameSpec)

/-- 'laws.FnExactPartsOf', WHERE WHAT IT READS IS OF BULK AT MOST 1048576: true; the input reads as it did. -/
def fnExactPartsOfUptoRow : OpenClaim := { program := "ytjninonimacmgaa", sum := "f2e5c6023e8b90b4476d2f5f5b576e783d7045460d7ce378f1312647fe564dee", func := "loop.example/loggertree/laws.FnExactPartsOf", spec := "fnExactPartsOf", apart := false, narrowed := true }
def FnExactPartsOfUptoSaid : Prop := fnExactPartsOfUptoRow.holds Try.pinned (OpenSpec.upto fnExactPartsOfSpec)

/-- 'laws.FnExactIsBelow', WHERE WHAT IT READS IS OF BULK AT MOST 1048576: true; the input reads as it did. -/
def fnExactIsBelowUptoRow : OpenClaim := { program := "ytjninonimacmgaa", sum := "f2e5c6023e8b90b4476d2f5f5b576e783d7045460d7ce378f1312647fe564dee", func := "loop.example/loggertree/laws.FnExactIsBelow", spec := "fnExactIsBelow", apart := false, narrowed := true }
def FnExactIsBelowUptoSaid : Prop := fnExactIsBelowUptoRow.holds Try.pinned (OpenSpec.upto fnExactIsBelowSpec)

/-- 'laws.FnExactCommonName', WHERE WHAT IT READS IS OF BULK AT MOST 1048576: true; the input reads as it did. -/
def fnExactCommonNameUptoRow : OpenClaim := { program := "ytjninonimacmgaa", sum := "f2e5c6023e8b90b4476d2f5f5b576e783d7045460d7ce378f1312647fe564dee", func := "loop.example/loggertree/laws.FnExactCommonName", spec := "fnExactCommonName", apart := false, narrowed := true }
def FnExactCommonNameUptoSaid : Prop := fnExactCommonNameUptoRow.holds Try.pinned (OpenSpec.upto fnExactCommonNameSpec)

/-- 'laws.FnExactValidFilters', WHERE WHAT IT READS IS OF BULK AT MOST 1048576: true; the input reads as it did. -/
def fnExactValidFiltersUptoRow : OpenClaim := { program := "ytjninonimacmgaa", sum := "f2e5c6023e8b90b4476d2f5f5b576e783d7045460d7ce378f1312647fe564dee", func := "loop.example/loggertree/laws.FnExactValidFilters", spec := "fnExactValidFilters", apart := false, narrowed := true }
def FnExactValidFiltersUptoSaid : Prop := fnExactValidFiltersUptoRow.holds Try.pinned (OpenSpec.upto fnExactValidFiltersSpec)

end Rows
end Go.Proofs.Ytjninonimacmgaa
