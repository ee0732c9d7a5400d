/-
  DRAWS: a tree and two names. By gen_e18.py.
-/
import Derived.Test.YtjejildgbmkbbaaE14
namespace Go.Proofs.Ytjejildgbmkbbaa
open Go.RowKit Nm
set_option linter.unusedSimpArgs false
set_option linter.unusedVariables false

def DrawNamedS (w : World) (e : Ending) (w' : World) : Prop :=
  ∃ (v : Value) (rs : List Row) (L : List Lgr) (H : List Hnd) (q : Int) (nm : ByteArray) (z : ByteArray), e = .returned (.tuple #[v, .string nm, .string z]) ∧ TreeS rs v L H q ∧ treeSm 9 L H ∧ nm.size ≤ 20 ∧ z.size ≤ 20 ∧ Rows w' w.heap.size rs ∧ Below w.heap.size w w'
def mvWords : List (List UInt8) := [[122], [97], [122, 46, 121], [98], [], [65], [97, 46, 98]]

end Go.Proofs.Ytjejildgbmkbbaa
