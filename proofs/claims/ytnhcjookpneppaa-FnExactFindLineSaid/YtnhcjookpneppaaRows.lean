/-
  No cell of these rows narrows 'for every input' (looked for: loops, veiled, ifaces, maps, wideKeys, modest, calm, conditions, laid).
  DERIVED. THE GIVEN ROWS OF THIS SEAT. 9 by the template 'for every input the law returns true; each argument reads behind the call as it read before'; 0 by the template 'total and deterministic' (their statements: YtnhcjookpneppaaTotals.lean).
  GIVEN WITH THE SEED: the statements are not yours to turn. If you find one false, say at which input.
  Laid BY PROGRAM, IN A SANDBOX (cutbox-rows.mjs): the forced cells as the released guide's own fill.sh prints them over the translation a476ae9b312b59b4… (all of the seat's roots in one cut). By AI agents, Wed Nov 11 2026. No macro, syntax, notation, axiom, sorry.
-/
import Derived.Test.YtnhcjookpneppaaChecked
import GoSem.Claim
import GoSem.ClaimJoined
import GoSem.ClaimMapViews
import Derived.JoinedTies
import Derived.KernelRfl
namespace Go.Proofs.Ytnhcjookpneppaa
/- THE CELL 'sum', in the pinned program and in every row, IS THE sha256 OF THE DUMP (.gsa) THAT YtnhcjookpneppaaProg.lean LOADS. Nothing in Lean hashes anything: it is a label: what it is worth is what the hold of that sum in a sandbox is worth. -/
noncomputable def Try.pinned : Pinned := { name := "ytnhcjookpneppaa", sum := "a476ae9b312b59b402b88c7e17f27663cb657ecb02f2df17d329147702b2777c", checked := Try.checked }
namespace Rows
def none {H : Type} : Left H := { results := [], args := [] }

/-- 'laws.FnExactSizeOf': WHATEVER THE INPUT: true; the input reads as it did. -/
def fnExactSizeOfSpec : ChangeSpec := { name := "fnExactSizeOf", fn := fun _ => fun
  | [d] => { results := [.lit (.bool true)], args := [d] }
  | _ => none }
def fnExactSizeOfRow : OpenClaim := { program := "ytnhcjookpneppaa", sum := "a476ae9b312b59b402b88c7e17f27663cb657ecb02f2df17d329147702b2777c", func := "loop.example/loggertree/laws.FnExactSizeOf", spec := "fnExactSizeOf", apart := false }
def FnExactSizeOfSaid : Prop := fnExactSizeOfRow.holds Try.pinned (OpenSpec.ofChange fnExactSizeOfSpec)

/-- ITS FALSE NEIGHBOUR: 'it returns false'. Refute it at one input. -/
def fnExactSizeOfWrong : ChangeSpec := { name := "fnExactSizeOf", fn := fun _ => fun
  | [d] => { results := [.lit (.bool false)], args := [d] }
  | _ => none }
def FnExactSizeOfWrongFalsely : Prop := fnExactSizeOfRow.holds Try.pinned (OpenSpec.ofChange fnExactSizeOfWrong)

/-- 'laws.FnExactValidFiles': WHATEVER THE INPUT: true; the input reads as it did. -/
def fnExactValidFilesSpec : ChangeSpec := { name := "fnExactValidFiles", fn := fun _ => fun
  | [d] => { results := [.lit (.bool true)], args := [d] }
  | _ => none }
def fnExactValidFilesRow : OpenClaim := { program := "ytnhcjookpneppaa", sum := "a476ae9b312b59b402b88c7e17f27663cb657ecb02f2df17d329147702b2777c", func := "loop.example/loggertree/laws.FnExactValidFiles", spec := "fnExactValidFiles", apart := false }
def FnExactValidFilesSaid : Prop := fnExactValidFilesRow.holds Try.pinned (OpenSpec.ofChange fnExactValidFilesSpec)

/-- ITS FALSE NEIGHBOUR: 'it returns false'. Refute it at one input. -/
def fnExactValidFilesWrong : ChangeSpec := { name := "fnExactValidFiles", fn := fun _ => fun
  | [d] => { results := [.lit (.bool false)], args := [d] }
  | _ => none }
def FnExactValidFilesWrongFalsely : Prop := fnExactValidFilesRow.holds Try.pinned (OpenSpec.ofChange fnExactValidFilesWrong)

/-- 'laws.FnExactRollFiles': WHATEVER THE INPUT: true; the input reads as it did. -/
def fnExactRollFilesSpec : ChangeSpec := { name := "fnExactRollFiles", fn := fun _ => fun
  | [d] => { results := [.lit (.bool true)], args := [d] }
  | _ => none }
def fnExactRollFilesRow : OpenClaim := { program := "ytnhcjookpneppaa", sum := "a476ae9b312b59b402b88c7e17f27663cb657ecb02f2df17d329147702b2777c", func := "loop.example/loggertree/laws.FnExactRollFiles", spec := "fnExactRollFiles", apart := false }
def FnExactRollFilesSaid : Prop := fnExactRollFilesRow.holds Try.pinned (OpenSpec.ofChange fnExactRollFilesSpec)

/-- ITS FALSE NEIGHBOUR: 'it returns false'. Refute it at one input. -/
def fnExactRollFilesWrong : ChangeSpec := { name := "fnExactRollFiles", fn := fun _ => fun
  | [d] => { results := [.lit (.bool false)], args := [d] }
  | _ => none }
def FnExactRollFilesWrongFalsely : Prop := fnExactRollFilesRow.holds Try.pinned (OpenSpec.ofChange fnExactRollFilesWrong)

/-- 'laws.FnExactWriteLine': WHATEVER THE INPUT: true; the input reads as it did. -/
def fnExactWriteLineSpec : ChangeSpec := { name := "fnExactWriteLine", fn := fun _ => fun
  | [d1, d2] => { results := [.lit (.bool true)], args := [d1, d2] }
  | _ => none }
def fnExactWriteLineRow : OpenClaim := { program := "ytnhcjookpneppaa", sum := "a476ae9b312b59b402b88c7e17f27663cb657ecb02f2df17d329147702b2777c", func := "loop.example/loggertree/laws.FnExactWriteLine", spec := "fnExactWriteLine", apart := false }
def FnExactWriteLineSaid : Prop := fnExactWriteLineRow.holds Try.pinned (OpenSpec.ofChange fnExactWriteLineSpec)

/-- ITS FALSE NEIGHBOUR: 'it returns false'. Refute it at one input. -/
def fnExactWriteLineWrong : ChangeSpec := { name := "fnExactWriteLine", fn := fun _ => fun
  | [d1, d2] => { results := [.lit (.bool false)], args := [d1, d2] }
  | _ => none }
def FnExactWriteLineWrongFalsely : Prop := fnExactWriteLineRow.holds Try.pinned (OpenSpec.ofChange fnExactWriteLineWrong)

/-- 'laws.FnExactWriteLines': WHATEVER THE INPUT: true; the input reads as it did. -/
def fnExactWriteLinesSpec : ChangeSpec := { name := "fnExactWriteLines", fn := fun _ => fun
  | [d1, d2] => { results := [.lit (.bool true)], args := [d1, d2] }
  | _ => none }
def fnExactWriteLinesRow : OpenClaim := { program := "ytnhcjookpneppaa", sum := "a476ae9b312b59b402b88c7e17f27663cb657ecb02f2df17d329147702b2777c", func := "loop.example/loggertree/laws.FnExactWriteLines", spec := "fnExactWriteLines", apart := false }
def FnExactWriteLinesSaid : Prop := fnExactWriteLinesRow.holds Try.pinned (OpenSpec.ofChange fnExactWriteLinesSpec)

/-- ITS FALSE NEIGHBOUR: 'it returns false'. Refute it at one input. -/
def fnExactWriteLinesWrong : ChangeSpec := { name := "fnExactWriteLines", fn := fun _ => fun
  | [d1, d2] => { results := [.lit (.bool false)], args := [d1, d2] }
  | _ => none }
def FnExactWriteLinesWrongFalsely : Prop := fnExactWriteLinesRow.holds Try.pinned (OpenSpec.ofChange fnExactWriteLinesWrong)

/-- 'laws.FnExactAllLines': WHATEVER THE INPUT: true; the input reads as it did. -/
def fnExactAllLinesSpec : ChangeSpec := { name := "fnExactAllLines", fn := fun _ => fun
  | [d] => { results := [.lit (.bool true)], args := [d] }
  | _ => none }
def fnExactAllLinesRow : OpenClaim := { program := "ytnhcjookpneppaa", sum := "a476ae9b312b59b402b88c7e17f27663cb657ecb02f2df17d329147702b2777c", func := "loop.example/loggertree/laws.FnExactAllLines", spec := "fnExactAllLines", apart := false }
def FnExactAllLinesSaid : Prop := fnExactAllLinesRow.holds Try.pinned (OpenSpec.ofChange fnExactAllLinesSpec)

/-- ITS FALSE NEIGHBOUR: 'it returns false'. Refute it at one input. -/
def fnExactAllLinesWrong : ChangeSpec := { name := "fnExactAllLines", fn := fun _ => fun
  | [d] => { results := [.lit (.bool false)], args := [d] }
  | _ => none }
def FnExactAllLinesWrongFalsely : Prop := fnExactAllLinesRow.holds Try.pinned (OpenSpec.ofChange fnExactAllLinesWrong)

/-- 'laws.FnExactFindLine': WHATEVER THE INPUT: true; the input reads as it did. -/
def fnExactFindLineSpec : ChangeSpec := { name := "fnExactFindLine", fn := fun _ => fun
  | [d1, d2] => { results := [.lit (.bool true)], args := [d1, d2] }
  | _ => none }
def fnExactFindLineRow : OpenClaim := { program := "ytnhcjookpneppaa", sum := "a476ae9b312b59b402b88c7e17f27663cb657ecb02f2df17d329147702b2777c", func := "loop.example/loggertree/laws.FnExactFindLine", spec := "fnExactFindLine", apart := false }
def FnExactFindLineSaid : Prop := fnExactFindLineRow.holds Try.pinned (OpenSpec.ofChange fnExactFindLineSpec)

/-- ITS FALSE NEIGHBOUR: 'it returns false'. Refute it at one input. -/
def fnExactFindLineWrong : ChangeSpec := { name := "fnExactFindLine", fn := fun _ => fun
  | [d1, d2] => { results := [.lit (.bool false)], args := [d1, d2] }
  | _ => none }
def FnExactFindLineWrongFalsely : Prop := fnExactFindLineRow.holds Try.pinned (OpenSpec.ofChange fnExactFindLineWrong)

/-- 'laws.FnExactValidDays': WHATEVER THE INPUT: true; the input reads as it did. -/
def fnExactValidDaysSpec : ChangeSpec := { name := "fnExactValidDays", fn := fun _ => fun
  | [d] => { results := [.lit (.bool true)], args := [d] }
  | _ => none }
def fnExactValidDaysRow : OpenClaim := { program := "ytnhcjookpneppaa", sum := "a476ae9b312b59b402b88c7e17f27663cb657ecb02f2df17d329147702b2777c", func := "loop.example/loggertree/laws.FnExactValidDays", spec := "fnExactValidDays", apart := false }
def FnExactValidDaysSaid : Prop := fnExactValidDaysRow.holds Try.pinned (OpenSpec.ofChange fnExactValidDaysSpec)

/-- ITS FALSE NEIGHBOUR: 'it returns false'. Refute it at one input. -/
def fnExactValidDaysWrong : ChangeSpec := { name := "fnExactValidDays", fn := fun _ => fun
  | [d] => { results := [.lit (.bool false)], args := [d] }
  | _ => none }
def FnExactValidDaysWrongFalsely : Prop := fnExactValidDaysRow.holds Try.pinned (OpenSpec.ofChange fnExactValidDaysWrong)

/-- 'laws.FnExactWriteDay': WHATEVER THE INPUT: true; the input reads as it did. -/
def fnExactWriteDaySpec : ChangeSpec := { name := "fnExactWriteDay", fn := fun _ => fun
  | [d1, d2, d3, d4] => { results := [.lit (.bool true)], args := [d1, d2, d3, d4] }
  | _ => none }
def fnExactWriteDayRow : OpenClaim := { program := "ytnhcjookpneppaa", sum := "a476ae9b312b59b402b88c7e17f27663cb657ecb02f2df17d329147702b2777c", func := "loop.example/loggertree/laws.FnExactWriteDay", spec := "fnExactWriteDay", apart := false }
def FnExactWriteDaySaid : Prop := fnExactWriteDayRow.holds Try.pinned (OpenSpec.ofChange fnExactWriteDaySpec)

/-- ITS FALSE NEIGHBOUR: 'it returns false'. Refute it at one input. -/
def fnExactWriteDayWrong : ChangeSpec := { name := "fnExactWriteDay", fn := fun _ => fun
  | [d1, d2, d3, d4] => { results := [.lit (.bool false)], args := [d1, d2, d3, d4] }
  | _ => none }
def FnExactWriteDayWrongFalsely : Prop := fnExactWriteDayRow.holds Try.pinned (OpenSpec.ofChange fnExactWriteDayWrong)

/- THE SECOND FORM. 'bulk': how many values and letters a reading holds, each counted each time it is reached (what is shared counts as often as it is met; a slice's spare places count too). A statement '..UptoSaid' is the law's where the arguments, and the package variables that the reading takes, are together of bulk at most 1048576: NARROWER than '..Said'. Prove '..Said' where nothing that the law and all that it calls make is longer than what came in: it says more and counts as full. Else prove '..UptoSaid'. A law counts once. -/
mutual
def uptoBulk {H : Type} : DataW H → Nat
  | .lit (.string bytes) => bytes.length + 1
  | .lit _ => 1
  | .nil => 1
  | .ptr d => uptoBulk d + 1
  | .slice elems spare => uptoBulkAll elems + uptoBulkAll spare + 1
  | .agg parts => uptoBulkAll parts + 1
  | .iface _ d => uptoBulk d + 1
  | .map entries => uptoBulkEntries entries + 1
  | .held _ => 1
def uptoBulkAll {H : Type} : List (DataW H) → Nat
  | [] => 0
  | d :: r => uptoBulk d + uptoBulkAll r
def uptoBulkEntries {H : Type} : List (Lit × DataW H) → Nat
  | [] => 0
  | x :: r => uptoBulkEntry x + uptoBulkEntries r
def uptoBulkEntry {H : Type} : Lit × DataW H → Nat
  | (.string bytes, d) => bytes.length + uptoBulk d + 1
  | (_, d) => uptoBulk d + 1
 end
def uptoSmall : (H : Type) → List (DataW H) → Bool := fun _ ds => decide (uptoBulkAll ds ≤ 1048576)
def OpenSpec.upto (s : _root_.Go.ChangeSpec) : _root_.Go.OpenSpec := { _root_.Go.OpenSpec.ofChange s with cond := some uptoSmall }

/-- 'laws.FnExactSizeOf', WHERE WHAT IT READS IS OF BULK AT MOST 1048576: true; the input reads as it did. -/
def fnExactSizeOfUptoRow : OpenClaim := { program := "ytnhcjookpneppaa", sum := "a476ae9b312b59b402b88c7e17f27663cb657ecb02f2df17d329147702b2777c", func := "loop.example/loggertree/laws.FnExactSizeOf", spec := "fnExactSizeOf", apart := false, narrowed := true }
def FnExactSizeOfUptoSaid : Prop := fnExactSizeOfUptoRow.holds Try.pinned (OpenSpec.upto fnExactSizeOfSpec)

/-- 'laws.FnExactValidFiles', WHERE WHAT IT READS IS OF BULK AT MOST 1048576: true; the input reads as it did. -/
def fnExactValidFilesUptoRow : OpenClaim := { program := "ytnhcjookpneppaa", sum := "a476ae9b312b59b402b88c7e17f27663cb657ecb02f2df17d329147702b2777c", func := "loop.example/loggertree/laws.FnExactValidFiles", spec := "fnExactValidFiles", apart := false, narrowed := true }
def FnExactValidFilesUptoSaid : Prop := fnExactValidFilesUptoRow.holds Try.pinned (OpenSpec.upto fnExactValidFilesSpec)

/-- 'laws.FnExactRollFiles', WHERE WHAT IT READS IS OF BULK AT MOST 1048576: true; the input reads as it did. -/
def fnExactRollFilesUptoRow : OpenClaim := { program := "ytnhcjookpneppaa", sum := "a476ae9b312b59b402b88c7e17f27663cb657ecb02f2df17d329147702b2777c", func := "loop.example/loggertree/laws.FnExactRollFiles", spec := "fnExactRollFiles", apart := false, narrowed := true }
def FnExactRollFilesUptoSaid : Prop := fnExactRollFilesUptoRow.holds Try.pinned (OpenSpec.upto fnExactRollFilesSpec)

/-- 'laws.FnExactWriteLine', WHERE WHAT IT READS IS OF BULK AT MOST 1048576: true; the input reads as it did. -/
def fnExactWriteLineUptoRow : OpenClaim := { program := "ytnhcjookpneppaa", sum := "a476ae9b312b59b402b88c7e17f27663cb657ecb02f2df17d329147702b2777c", func := "loop.example/loggertree/laws.FnExactWriteLine", spec := "fnExactWriteLine", apart := false, narrowed := true }
def FnExactWriteLineUptoSaid : Prop := fnExactWriteLineUptoRow.holds Try.pinned (OpenSpec.upto fnExactWriteLineSpec)

/-- 'laws.FnExactWriteLines', WHERE WHAT IT READS IS OF BULK AT MOST 1048576: true; the input reads as it did. -/
def fnExactWriteLinesUptoRow : OpenClaim := { program := "ytnhcjookpneppaa", sum := "a476ae9b312b59b402b88c7e17f27663cb657ecb02f2df17d329147702b2777c", func := "loop.example/loggertree/laws.FnExactWriteLines", spec := "fnExactWriteLines", apart := false, narrowed := true }
def FnExactWriteLinesUptoSaid : Prop := fnExactWriteLinesUptoRow.holds Try.pinned (OpenSpec.upto fnExactWriteLinesSpec)

/-- 'laws.FnExactAllLines', WHERE WHAT IT READS IS OF BULK AT MOST 1048576: true; the input reads as it did. -/
def fnExactAllLinesUptoRow : OpenClaim := { program := "ytnhcjookpneppaa", sum := "a476ae9b312b59b402b88c7e17f27663cb657ecb02f2df17d329147702b2777c", func := "loop.example/loggertree/laws.FnExactAllLines", spec := "fnExactAllLines", apart := false, narrowed := true }
def FnExactAllLinesUptoSaid : Prop := fnExactAllLinesUptoRow.holds Try.pinned (OpenSpec.upto fnExactAllLinesSpec)

/-- 'laws.FnExactFindLine', WHERE WHAT IT READS IS OF BULK AT MOST 1048576: true; the input reads as it did. -/
def fnExactFindLineUptoRow : OpenClaim := { program := "ytnhcjookpneppaa", sum := "a476ae9b312b59b402b88c7e17f27663cb657ecb02f2df17d329147702b2777c", func := "loop.example/loggertree/laws.FnExactFindLine", spec := "fnExactFindLine", apart := false, narrowed := true }
def FnExactFindLineUptoSaid : Prop := fnExactFindLineUptoRow.holds Try.pinned (OpenSpec.upto fnExactFindLineSpec)

/-- 'laws.FnExactValidDays', WHERE WHAT IT READS IS OF BULK AT MOST 1048576: true; the input reads as it did. -/
def fnExactValidDaysUptoRow : OpenClaim := { program := "ytnhcjookpneppaa", sum := "a476ae9b312b59b402b88c7e17f27663cb657ecb02f2df17d329147702b2777c", func := "loop.example/loggertree/laws.FnExactValidDays", spec := "fnExactValidDays", apart := false, narrowed := true }
def FnExactValidDaysUptoSaid : Prop := fnExactValidDaysUptoRow.holds Try.pinned (OpenSpec.upto fnExactValidDaysSpec)

/-- 'laws.FnExactWriteDay', WHERE WHAT IT READS IS OF BULK AT MOST 1048576: true; the input reads as it did. -/
def fnExactWriteDayUptoRow : OpenClaim := { program := "ytnhcjookpneppaa", sum := "a476ae9b312b59b402b88c7e17f27663cb657ecb02f2df17d329147702b2777c", func := "loop.example/loggertree/laws.FnExactWriteDay", spec := "fnExactWriteDay", apart := false, narrowed := true }
def FnExactWriteDayUptoSaid : Prop := fnExactWriteDayUptoRow.holds Try.pinned (OpenSpec.upto fnExactWriteDaySpec)

end Rows
end Go.Proofs.Ytnhcjookpneppaa
