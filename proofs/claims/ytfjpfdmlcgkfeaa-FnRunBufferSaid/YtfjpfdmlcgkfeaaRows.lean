/-
  No cell of these rows narrows 'for every input' (looked for: loops, veiled, ifaces, maps, wideKeys, modest, calm, conditions, laid).
  DERIVED. THE GIVEN ROWS OF THIS SEAT. 2 by the template 'for every input the law returns true; each argument reads behind the call as it read before'; 0 by the template 'total and deterministic' (their statements: YtfjpfdmlcgkfeaaTotals.lean).
  GIVEN WITH THE SEED: the statements are not yours to turn. If you find one false, say at which input.
  Laid BY PROGRAM, IN A SANDBOX (cutbox-rows.mjs): the forced cells as the released guide's own fill.sh prints them over the translation a5a4f59599156e3a… (all of the seat's roots in one cut). By AI agents, Wed Nov 11 2026. No macro, syntax, notation, axiom, sorry.
-/
import Derived.Test.YtfjpfdmlcgkfeaaChecked
import GoSem.Claim
import GoSem.ClaimJoined
import GoSem.ClaimMapViews
import Derived.JoinedTies
import Derived.KernelRfl
namespace Go.Proofs.Ytfjpfdmlcgkfeaa
/- THE CELL 'sum', in the pinned program and in every row, IS THE sha256 OF THE DUMP (.gsa) THAT YtfjpfdmlcgkfeaaProg.lean LOADS. Nothing in Lean hashes anything: it is a label: what it is worth is what the hold of that sum in a sandbox is worth. -/
noncomputable def Try.pinned : Pinned := { name := "ytfjpfdmlcgkfeaa", sum := "a5a4f59599156e3aaf0124df0278bcaf234f3e14c4cbcc6fe5c5cdbd5ff027f3", checked := Try.checked }
namespace Rows
def none {H : Type} : Left H := { results := [], args := [] }

/-- 'laws.FnExactRunBuffer': WHATEVER THE INPUT: true; the input reads as it did. -/
def fnExactRunBufferSpec : ChangeSpec := { name := "fnExactRunBuffer", fn := fun _ => fun
  | [d1, d2] => { results := [.lit (.bool true)], args := [d1, d2] }
  | _ => none }
def fnExactRunBufferRow : OpenClaim := { program := "ytfjpfdmlcgkfeaa", sum := "a5a4f59599156e3aaf0124df0278bcaf234f3e14c4cbcc6fe5c5cdbd5ff027f3", func := "loop.example/loggertree/laws.FnExactRunBuffer", spec := "fnExactRunBuffer", apart := false }
def FnExactRunBufferSaid : Prop := fnExactRunBufferRow.holds Try.pinned (OpenSpec.ofChange fnExactRunBufferSpec)

/-- ITS FALSE NEIGHBOUR: 'it returns false'. Refute it at one input. -/
def fnExactRunBufferWrong : ChangeSpec := { name := "fnExactRunBuffer", fn := fun _ => fun
  | [d1, d2] => { results := [.lit (.bool false)], args := [d1, d2] }
  | _ => none }
def FnExactRunBufferWrongFalsely : Prop := fnExactRunBufferRow.holds Try.pinned (OpenSpec.ofChange fnExactRunBufferWrong)

/-- 'laws.FnRunBuffer': WHATEVER THE INPUT: true; the input reads as it did. -/
def fnRunBufferSpec : ChangeSpec := { name := "fnRunBuffer", fn := fun _ => fun
  | [d] => { results := [.lit (.bool true)], args := [d] }
  | _ => none }
def fnRunBufferRow : OpenClaim := { program := "ytfjpfdmlcgkfeaa", sum := "a5a4f59599156e3aaf0124df0278bcaf234f3e14c4cbcc6fe5c5cdbd5ff027f3", func := "loop.example/loggertree/laws.FnRunBuffer", spec := "fnRunBuffer", apart := false }
def FnRunBufferSaid : Prop := fnRunBufferRow.holds Try.pinned (OpenSpec.ofChange fnRunBufferSpec)

/-- ITS FALSE NEIGHBOUR: 'it returns false'. Refute it at one input. -/
def fnRunBufferWrong : ChangeSpec := { name := "fnRunBuffer", fn := fun _ => fun
  | [d] => { results := [.lit (.bool false)], args := [d] }
  | _ => none }
def FnRunBufferWrongFalsely : Prop := fnRunBufferRow.holds Try.pinned (OpenSpec.ofChange fnRunBufferWrong)

/- THE SECOND FORM. 'bulk': how many values and letters a reading holds, each counted each time it is reached (what is shared counts as often as it is met; a slice's spare places count too). A statement '..UptoSaid' is the law's where the arguments, and the package variables that the reading takes, are together of bulk at most 1048576: NARROWER than '..Said'. Prove '..Said' where nothing that the law and all that it calls make is longer than what came in: it says more and counts as full. Else prove '..UptoSaid'. A law counts once. -/
mutual
def uptoBulk {H : Type} : DataW H → Nat
  | .lit (.string bytes) => bytes.length + 1
  | .lit _ => 1
  | .nil => 1
  | .ptr d => uptoBulk d + 1
  | .slice elems spare => uptoBulkAll elems + uptoBulkAll spare + 1
  | .agg parts => uptoBulkAll parts + 1
  | .iface _ d => uptoBulk d + 1
  | .map entries => uptoBulkEntries entries + 1
  | .held _ => 1
def uptoBulkAll {H : Type} : List (DataW H) → Nat
  | [] => 0
  | d :: r => uptoBulk d + uptoBulkAll r
def uptoBulkEntries {H : Type} : List (Lit × DataW H) → Nat
  | [] => 0
  | x :: r => uptoBulkEntry x + uptoBulkEntries r
def uptoBulkEntry {H : Type} : Lit × DataW H → Nat
  | (.string bytes, d) => bytes.length + uptoBulk d + 1
  | (_, d) => uptoBulk d + 1
 end
def uptoSmall : (H : Type) → List (DataW H) → Bool := fun _ ds => decide (uptoBulkAll ds ≤ 1048576)
def OpenSpec.upto (s : _root_.Go.ChangeSpec) : _root_.Go.OpenSpec := { _root_.Go.OpenSpec.ofChange s with cond := some uptoSmall }

/-- 'laws.FnExactRunBuffer', WHERE WHAT IT READS IS OF BULK AT MOST 1048576: true; the input reads as it did. -/
def fnExactRunBufferUptoRow : OpenClaim := { program := "ytfjpfdmlcgkfeaa", sum := "a5a4f59599156e3aaf0124df0278bcaf234f3e14c4cbcc6fe5c5cdbd5ff027f3", func := "loop.example/loggertree/laws.FnExactRunBuffer", spec := "fnExactRunBuffer", apart := false, narrowed := true }
def FnExactRunBufferUptoSaid : Prop := fnExactRunBufferUptoRow.holds Try.pinned (OpenSpec.upto fnExactRunBufferSpec)

/-- 'laws.FnRunBuffer', WHERE WHAT IT READS IS OF BULK AT MOST 1048576: true; the input reads as it did. -/
def fnRunBufferUptoRow : OpenClaim := { program := "ytfjpfdmlcgkfeaa", sum := "a5a4f59599156e3aaf0124df0278bcaf234f3e14c4cbcc6fe5c5cdbd5ff027f3", func := "loop.example/loggertree/laws.FnRunBuffer", spec := "fnRunBuffer", apart := false, narrowed := true }
def FnRunBufferUptoSaid : Prop := fnRunBufferUptoRow.holds Try.pinned (OpenSpec.upto fnRunBufferSpec)

end Rows
end Go.Proofs.Ytfjpfdmlcgkfeaa
