/-
  FILTERS ASKED: FilterRecord of both, as the exact law takes them.
-/
import Derived.Test.YteekkccgdkmjoaaFR3
import Derived.Test.YteekkccgdkmjoaaKFlts
namespace Go.Proofs.Yteekkccgdkmjoaa
open Go.RowKit Go.Proofs.Yteekkccgdkmjoaa.Nm
set_option linter.unusedSimpArgs false
set_option linter.unusedVariables false

def oS (s : ByteArray) (o : Option Int) : ByteArray := if o.isSome then s else ⟨#[]⟩
def oI (i : Int) (o : Option Int) : Int := if o.isSome then i else 0
def oL (o : Option Int) : Int := o.getD 0
theorem recOut_eq (nm tx : ByteArray) (sq : Int) (o : Option Int) : recOut nm tx sq o = .agg #[.string (oS nm o), .int .i64 (oL o), .string (oS tx o), .int .i64 (oI sq o)] := by cases o <;> rfl
def FOut (w : World) (nm tx : ByteArray) (sq : Int) (o : Option Int) (e : Ending) (w' : World) : Prop := e = .returned (.tuple #[.agg #[.string (oS nm o), .int .i64 (oL o), .string (oS tx o), .int .i64 (oI sq o)], .bool o.isSome]) ∧ Below w.heap.size w w'
theorem specFilterX_c {w : World} {v : Value} {l : List Flt} (nm tx : ByteArray) (lv sq : Int) (h : FltsIn w w.heap.size v l) (hnm : nm.size ≤ maxTxt) (htx : tx.size ≤ maxTxt) :
    Calls Try.prog 7 #[v, .agg #[.string nm, .int .i64 lv, .string tx, .int .i64 sq]] w (FOut w nm tx sq (fX l nm tx lv sq)) := by
  refine (specFilterRecord_c v l.length w.heap.size l nm tx lv sq w h.1 (Nat.le_refl _) hnm htx).mono ?_
  rintro e w' ⟨he, hb⟩
  rw [recOut_eq] at he
  exact ⟨he, hb⟩
theorem implFilterX_c {w : World} {v : Value} {l : List Flt} (nm tx : ByteArray) (lv sq : Int) (h : FltsIn w w.heap.size v l) (hnm : nm.size ≤ maxTxt) (htx : tx.size ≤ maxTxt) :
    Calls Try.prog 10 #[v, .agg #[.string nm, .int .i64 lv, .string tx, .int .i64 sq]] w (FOut w nm tx sq (fX l nm tx lv sq)) := by
  refine (implFilterRecord_c v l.length w.heap.size l nm tx lv sq w h.1 (Nat.le_refl _) hnm htx).mono ?_
  rintro e w' ⟨he, hb⟩
  rw [recOut_eq] at he
  exact ⟨he, hb⟩
end Go.Proofs.Yteekkccgdkmjoaa
