/-
  What the texts of gen_law.py share.
-/
import Derived.Test.YtlhelhfaogcibaaG0
import Derived.Test.YtlhelhfaogcibaaR1
import Derived.Test.YtlhelhfaogcibaaW16
namespace Go.Proofs.Ytlhelhfaogcibaa
open Go.RowKit Nm
set_option linter.unusedSimpArgs false
set_option linter.unusedVariables false

/-- two slices of the call's own, the second laid behind the first, lie apart -/
theorem own_ne {w w' : World} {b1 s1 n1 s2 n2 : Nat} {e1 e2 : TypeId} {v1 v2 : Value} {x1 x2 : List Value} (h1 : w.ownsRow b1 e1 s1 v1 n1 x1) (h2 : w'.ownsRow w.heap.size e2 s2 v2 n2 x2) : v1.ownBlock = none ∨ v1.ownBlock ≠ v2.ownBlock := by
  cases hq : v1.ownBlock with
  | none => exact .inl rfl
  | some g =>
    right; intro e
    have := (h1.lt g hq).2
    have := own_lt h2 g e.symm
    omega
theorem own_ne' {w w' : World} {b1 s1 n1 s2 n2 : Nat} {e1 e2 : TypeId} {v1 v2 : Value} {x1 x2 : List Value} (h1 : w.ownsRow b1 e1 s1 v1 n1 x1) (h2 : w'.ownsRow w.heap.size e2 s2 v2 n2 x2) : v2.ownBlock = none ∨ v2.ownBlock ≠ v1.ownBlock := by
  cases hq : v2.ownBlock with
  | none => exact .inl rfl
  | some g =>
    right; intro e
    have := (h1.lt g e.symm).2
    have := own_lt h2 g hq
    omega
theorem int_in {a : Int} (h : (Lit.int .i64 a).wf = true) : -9223372036854775808 ≤ a ∧ a ≤ 9223372036854775807 := by
  simp only [Lit.wf, Bool.and_eq_true, decide_eq_true_eq] at h
  have h1 : IntKind.i64.min = -9223372036854775808 := by decide
  have h2 : IntKind.i64.max = 9223372036854775807 := by decide
  rw [h1, h2] at h
  exact h
end Go.Proofs.Ytlhelhfaogcibaa
