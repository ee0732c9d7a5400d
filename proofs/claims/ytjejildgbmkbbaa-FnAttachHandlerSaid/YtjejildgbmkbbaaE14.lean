/-
  DRAWS of the laws of changed trees. By gen_e14.py.
-/
import Derived.Test.YtjejildgbmkbbaaE13
namespace Go.Proofs.Ytjejildgbmkbbaa
open Go.RowKit Nm
set_option linter.unusedSimpArgs false
set_option linter.unusedVariables false

/-- drawn for a law: a tree and a number -/
def DrawTreeN (w : World) (e : Ending) (w' : World) : Prop :=
  ∃ (v : Value) (rs : List Row) (L : List Lgr) (H : List Hnd) (q : Int) (z : Int), e = .returned (.tuple #[v, .int .i64 z]) ∧ TreeS rs v L H q ∧ treeSm 9 L H ∧ (-1 ≤ z ∧ z ≤ 61) ∧ Rows w' w.heap.size rs ∧ Below w.heap.size w w'
/-- drawn for a law: a tree, a name and a bool -/
def DrawNamedB (w : World) (e : Ending) (w' : World) : Prop :=
  ∃ (v : Value) (rs : List Row) (L : List Lgr) (H : List Hnd) (q : Int) (nm : ByteArray) (z : Bool), e = .returned (.tuple #[v, .string nm, .bool z]) ∧ TreeS rs v L H q ∧ treeSm 9 L H ∧ nm.size ≤ 20 ∧ Rows w' w.heap.size rs ∧ Below w.heap.size w w'

end Go.Proofs.Ytjejildgbmkbbaa
