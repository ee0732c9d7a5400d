/-
  NARROWER THAN 'FOR EVERY INPUT', by the rows' own cells (each row's printed sentence says how): FnExactShowWarnings: laid · FnValidWarnings: laid · FnShowWarnings: laid · FnShowWarningsOnce: laid.
  DERIVED. THE GIVEN ROWS OF THIS SEAT. 4 by the template 'for every input the law returns true; each argument reads behind the call as it read before'; 0 by the template 'total and deterministic' (their statements: YtaniaadmphojeaaDoorTotals.lean).
  GIVEN WITH THE SEED: the statements are not yours to turn. If you find one false, say at which input.
  Laid BY PROGRAM, IN A SANDBOX (cutbox-rows.mjs): the forced cells as the released guide's own fill.sh prints them over the translation 01c7b157860ebcc0… (all of the seat's roots in one cut). By AI agents, Wed Nov 11 2026. No macro, syntax, notation, axiom, sorry.
-/
import Derived.Test.YtaniaadmphojeaaDoorChecked
import GoSem.PinnedTables
import GoSem.Claim
import GoSem.ClaimJoined
import GoSem.ClaimMapViews
import Derived.JoinedTies
import Derived.KernelRfl
namespace Go.Proofs.YtaniaadmphojeaaDoor
/- THE CELL 'sum', in the pinned program and in every row, IS THE sha256 OF THE DUMP (.gsa) THAT YtaniaadmphojeaaDoorProg.lean LOADS. Nothing in Lean hashes anything: it is a label: what it is worth is what the hold of that sum in a sandbox is worth. -/
noncomputable def Tryd.pinned : Pinned := { name := "ytaniaadmphojeaadoor", sum := "01c7b157860ebcc06e9aa616380164fe48baee0c4d8609736109e69adc538827", checked := Tryd.checked }
namespace Rows
def none {H : Type} : Left H := { results := [], args := [] }

/- WHAT THE LISTED PACKAGE-LEVEL VARIABLES READ AS WHEN THE CALL BEGINS. Each datum BY PROGRAM (the guide's laid-datum.mjs) off the statement by which the dump's own 'gosem.cut.vars' lays the variable. In a bare row this is a premise. The card (YtaniaadmphojeaaDoorCards.lean) ties it to the program's text. -/
def laid_unicode_utf8_acceptRanges {H : Type} : DataW H := .agg [.agg [.lit (.int .u8 128), .lit (.int .u8 191)], .agg [.lit (.int .u8 160), .lit (.int .u8 191)], .agg [.lit (.int .u8 128), .lit (.int .u8 159)], .agg [.lit (.int .u8 144), .lit (.int .u8 191)], .agg [.lit (.int .u8 128), .lit (.int .u8 143)], .agg [.lit (.int .u8 0), .lit (.int .u8 0)], .agg [.lit (.int .u8 0), .lit (.int .u8 0)], .agg [.lit (.int .u8 0), .lit (.int .u8 0)], .agg [.lit (.int .u8 0), .lit (.int .u8 0)], .agg [.lit (.int .u8 0), .lit (.int .u8 0)], .agg [.lit (.int .u8 0), .lit (.int .u8 0)], .agg [.lit (.int .u8 0), .lit (.int .u8 0)], .agg [.lit (.int .u8 0), .lit (.int .u8 0)], .agg [.lit (.int .u8 0), .lit (.int .u8 0)], .agg [.lit (.int .u8 0), .lit (.int .u8 0)], .agg [.lit (.int .u8 0), .lit (.int .u8 0)]]
/-- One of Go's own tables, pinned by name: the form's constant. -/
def laid_unicode_utf8_first : DataW Unit := Go.Pinned.utf8First

/-- 'laws.FnExactShowWarnings': WHATEVER THE INPUT: true; the input reads as it did. -/
def fnExactShowWarningsSpec : ChangeSpec := { name := "fnExactShowWarnings", fn := fun _ => fun
  | [d1, d2] => { results := [.lit (.bool true)], args := [d1, d2] }
  | _ => none }
def fnExactShowWarningsRow : OpenClaim := { program := "ytaniaadmphojeaadoor", sum := "01c7b157860ebcc06e9aa616380164fe48baee0c4d8609736109e69adc538827", func := "loop.example/loggertree/laws.FnExactShowWarnings", spec := "fnExactShowWarnings", inPlace := ["internal/bytealg.CountString", "internal/bytealg.IndexByteString", "internal/bytealg.IndexString"], unfollowed := true, recurses := true, named := ["unicode/utf8.first", "unicode/utf8.acceptRanges", "internal/bytealg.MaxLen"], plainKeys := false, apart := false, laid := [("unicode/utf8.acceptRanges", laid_unicode_utf8_acceptRanges), ("unicode/utf8.first", laid_unicode_utf8_first)] }
def FnExactShowWarningsSaid : Prop := fnExactShowWarningsRow.holds Tryd.pinned (OpenSpec.ofChange fnExactShowWarningsSpec)

/-- ITS FALSE NEIGHBOUR: 'it returns false'. Refute it at one input. -/
def fnExactShowWarningsWrong : ChangeSpec := { name := "fnExactShowWarnings", fn := fun _ => fun
  | [d1, d2] => { results := [.lit (.bool false)], args := [d1, d2] }
  | _ => none }
def FnExactShowWarningsWrongFalsely : Prop := fnExactShowWarningsRow.holds Tryd.pinned (OpenSpec.ofChange fnExactShowWarningsWrong)

/-- 'laws.FnValidWarnings': WHATEVER THE INPUT: true; the input reads as it did. -/
def fnValidWarningsSpec : ChangeSpec := { name := "fnValidWarnings", fn := fun _ => fun
  | [d] => { results := [.lit (.bool true)], args := [d] }
  | _ => none }
def fnValidWarningsRow : OpenClaim := { program := "ytaniaadmphojeaadoor", sum := "01c7b157860ebcc06e9aa616380164fe48baee0c4d8609736109e69adc538827", func := "loop.example/loggertree/laws.FnValidWarnings", spec := "fnValidWarnings", inPlace := ["internal/bytealg.CountString", "internal/bytealg.IndexByteString", "internal/bytealg.IndexString"], unfollowed := true, recurses := true, named := ["unicode/utf8.first", "unicode/utf8.acceptRanges", "internal/bytealg.MaxLen"], plainKeys := false, apart := false, laid := [("unicode/utf8.acceptRanges", laid_unicode_utf8_acceptRanges), ("unicode/utf8.first", laid_unicode_utf8_first)] }
def FnValidWarningsSaid : Prop := fnValidWarningsRow.holds Tryd.pinned (OpenSpec.ofChange fnValidWarningsSpec)

/-- ITS FALSE NEIGHBOUR: 'it returns false'. Refute it at one input. -/
def fnValidWarningsWrong : ChangeSpec := { name := "fnValidWarnings", fn := fun _ => fun
  | [d] => { results := [.lit (.bool false)], args := [d] }
  | _ => none }
def FnValidWarningsWrongFalsely : Prop := fnValidWarningsRow.holds Tryd.pinned (OpenSpec.ofChange fnValidWarningsWrong)

/-- 'laws.FnShowWarnings': WHATEVER THE INPUT: true; the input reads as it did. -/
def fnShowWarningsSpec : ChangeSpec := { name := "fnShowWarnings", fn := fun _ => fun
  | [d] => { results := [.lit (.bool true)], args := [d] }
  | _ => none }
def fnShowWarningsRow : OpenClaim := { program := "ytaniaadmphojeaadoor", sum := "01c7b157860ebcc06e9aa616380164fe48baee0c4d8609736109e69adc538827", func := "loop.example/loggertree/laws.FnShowWarnings", spec := "fnShowWarnings", inPlace := ["internal/bytealg.CountString", "internal/bytealg.IndexByteString", "internal/bytealg.IndexString"], unfollowed := true, recurses := true, named := ["unicode/utf8.first", "unicode/utf8.acceptRanges", "internal/bytealg.MaxLen"], plainKeys := false, apart := false, laid := [("unicode/utf8.acceptRanges", laid_unicode_utf8_acceptRanges), ("unicode/utf8.first", laid_unicode_utf8_first)] }
def FnShowWarningsSaid : Prop := fnShowWarningsRow.holds Tryd.pinned (OpenSpec.ofChange fnShowWarningsSpec)

/-- ITS FALSE NEIGHBOUR: 'it returns false'. Refute it at one input. -/
def fnShowWarningsWrong : ChangeSpec := { name := "fnShowWarnings", fn := fun _ => fun
  | [d] => { results := [.lit (.bool false)], args := [d] }
  | _ => none }
def FnShowWarningsWrongFalsely : Prop := fnShowWarningsRow.holds Tryd.pinned (OpenSpec.ofChange fnShowWarningsWrong)

/-- 'laws.FnShowWarningsOnce': WHATEVER THE INPUT: true; the input reads as it did. -/
def fnShowWarningsOnceSpec : ChangeSpec := { name := "fnShowWarningsOnce", fn := fun _ => fun
  | [d] => { results := [.lit (.bool true)], args := [d] }
  | _ => none }
def fnShowWarningsOnceRow : OpenClaim := { program := "ytaniaadmphojeaadoor", sum := "01c7b157860ebcc06e9aa616380164fe48baee0c4d8609736109e69adc538827", func := "loop.example/loggertree/laws.FnShowWarningsOnce", spec := "fnShowWarningsOnce", inPlace := ["internal/bytealg.CountString", "internal/bytealg.IndexByteString", "internal/bytealg.IndexString"], unfollowed := true, recurses := true, named := ["unicode/utf8.first", "unicode/utf8.acceptRanges", "internal/bytealg.MaxLen"], plainKeys := false, apart := false, laid := [("unicode/utf8.acceptRanges", laid_unicode_utf8_acceptRanges), ("unicode/utf8.first", laid_unicode_utf8_first)] }
def FnShowWarningsOnceSaid : Prop := fnShowWarningsOnceRow.holds Tryd.pinned (OpenSpec.ofChange fnShowWarningsOnceSpec)

/-- ITS FALSE NEIGHBOUR: 'it returns false'. Refute it at one input. -/
def fnShowWarningsOnceWrong : ChangeSpec := { name := "fnShowWarningsOnce", fn := fun _ => fun
  | [d] => { results := [.lit (.bool false)], args := [d] }
  | _ => none }
def FnShowWarningsOnceWrongFalsely : Prop := fnShowWarningsOnceRow.holds Tryd.pinned (OpenSpec.ofChange fnShowWarningsOnceWrong)

/- THE SECOND FORM. 'bulk': how many values and letters a reading holds, each counted each time it is reached (what is shared counts as often as it is met; a slice's spare places count too). A statement '..UptoSaid' is the law's where the arguments, and the package variables that the reading takes, are together of bulk at most 1048576: NARROWER than '..Said'. Prove '..Said' where nothing that the law and all that it calls make is longer than what came in: it says more and counts as full. Else prove '..UptoSaid'. A law counts once. -/
mutual
def uptoBulk {H : Type} : DataW H → Nat
  | .lit (.string bytes) => bytes.length + 1
  | .lit _ => 1
  | .nil => 1
  | .ptr d => uptoBulk d + 1
  | .slice elems spare => uptoBulkAll elems + uptoBulkAll spare + 1
  | .agg parts => uptoBulkAll parts + 1
  | .iface _ d => uptoBulk d + 1
  | .map entries => uptoBulkEntries entries + 1
  | .held _ => 1
def uptoBulkAll {H : Type} : List (DataW H) → Nat
  | [] => 0
  | d :: r => uptoBulk d + uptoBulkAll r
def uptoBulkEntries {H : Type} : List (Lit × DataW H) → Nat
  | [] => 0
  | x :: r => uptoBulkEntry x + uptoBulkEntries r
def uptoBulkEntry {H : Type} : Lit × DataW H → Nat
  | (.string bytes, d) => bytes.length + uptoBulk d + 1
  | (_, d) => uptoBulk d + 1
 end
def uptoSmall : (H : Type) → List (DataW H) → Bool := fun _ ds => decide (uptoBulkAll ds ≤ 1048576)
def OpenSpec.upto (s : _root_.Go.ChangeSpec) : _root_.Go.OpenSpec := { _root_.Go.OpenSpec.ofChange s with cond := some uptoSmall }

/-- 'laws.FnExactShowWarnings', WHERE WHAT IT READS IS OF BULK AT MOST 1048576: true; the input reads as it did. -/
def fnExactShowWarningsUptoRow : OpenClaim := { program := "ytaniaadmphojeaadoor", sum := "01c7b157860ebcc06e9aa616380164fe48baee0c4d8609736109e69adc538827", func := "loop.example/loggertree/laws.FnExactShowWarnings", spec := "fnExactShowWarnings", inPlace := ["internal/bytealg.CountString", "internal/bytealg.IndexByteString", "internal/bytealg.IndexString"], unfollowed := true, recurses := true, named := ["unicode/utf8.first", "unicode/utf8.acceptRanges", "internal/bytealg.MaxLen"], plainKeys := false, apart := false, laid := [("unicode/utf8.acceptRanges", laid_unicode_utf8_acceptRanges), ("unicode/utf8.first", laid_unicode_utf8_first)], narrowed := true }
def FnExactShowWarningsUptoSaid : Prop := fnExactShowWarningsUptoRow.holds Tryd.pinned (OpenSpec.upto fnExactShowWarningsSpec)

/-- 'laws.FnValidWarnings', WHERE WHAT IT READS IS OF BULK AT MOST 1048576: true; the input reads as it did. -/
def fnValidWarningsUptoRow : OpenClaim := { program := "ytaniaadmphojeaadoor", sum := "01c7b157860ebcc06e9aa616380164fe48baee0c4d8609736109e69adc538827", func := "loop.example/loggertree/laws.FnValidWarnings", spec := "fnValidWarnings", inPlace := ["internal/bytealg.CountString", "internal/bytealg.IndexByteString", "internal/bytealg.IndexString"], unfollowed := true, recurses := true, named := ["unicode/utf8.first", "unicode/utf8.acceptRanges", "internal/bytealg.MaxLen"], plainKeys := false, apart := false, laid := [("unicode/utf8.acceptRanges", laid_unicode_utf8_acceptRanges), ("unicode/utf8.first", laid_unicode_utf8_first)], narrowed := true }
def FnValidWarningsUptoSaid : Prop := fnValidWarningsUptoRow.holds Tryd.pinned (OpenSpec.upto fnValidWarningsSpec)

/-- 'laws.FnShowWarnings', WHERE WHAT IT READS IS OF BULK AT MOST 1048576: true; the input reads as it did. -/
def fnShowWarningsUptoRow : OpenClaim := { program := "ytaniaadmphojeaadoor", sum := "01c7b157860ebcc06e9aa616380164fe48baee0c4d8609736109e69adc538827", func := "loop.example/loggertree/laws.FnShowWarnings", spec := "fnShowWarnings", inPlace := ["internal/bytealg.CountString", "internal/bytealg.IndexByteString", "internal/bytealg.IndexString"], unfollowed := true, recurses := true, named := ["unicode/utf8.first", "unicode/utf8.acceptRanges", "internal/bytealg.MaxLen"], plainKeys := false, apart := false, laid := [("unicode/utf8.acceptRanges", laid_unicode_utf8_acceptRanges), ("unicode/utf8.first", laid_unicode_utf8_first)], narrowed := true }
def FnShowWarningsUptoSaid : Prop := fnShowWarningsUptoRow.holds Tryd.pinned (OpenSpec.upto fnShowWarningsSpec)

/-- 'laws.FnShowWarningsOnce', WHERE WHAT IT READS IS OF BULK AT MOST 1048576: true; the input reads as it did. -/
def fnShowWarningsOnceUptoRow : OpenClaim := { program := "ytaniaadmphojeaadoor", sum := "01c7b157860ebcc06e9aa616380164fe48baee0c4d8609736109e69adc538827", func := "loop.example/loggertree/laws.FnShowWarningsOnce", spec := "fnShowWarningsOnce", inPlace := ["internal/bytealg.CountString", "internal/bytealg.IndexByteString", "internal/bytealg.IndexString"], unfollowed := true, recurses := true, named := ["unicode/utf8.first", "unicode/utf8.acceptRanges", "internal/bytealg.MaxLen"], plainKeys := false, apart := false, laid := [("unicode/utf8.acceptRanges", laid_unicode_utf8_acceptRanges), ("unicode/utf8.first", laid_unicode_utf8_first)], narrowed := true }
def FnShowWarningsOnceUptoSaid : Prop := fnShowWarningsOnceUptoRow.holds Tryd.pinned (OpenSpec.upto fnShowWarningsOnceSpec)

end Rows
end Go.Proofs.YtaniaadmphojeaaDoor
