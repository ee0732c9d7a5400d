/-
  DRAWS: a tree and a name. By gen_e5.py.
-/
import Derived.Test.YtioegkcekbkblaaGreatZyE4
namespace Go.Proofs.YtioegkcekbkblaaGreat
open Go.RowKit Nm
set_option linter.unusedSimpArgs false
set_option linter.unusedVariables false

theorem TreeS.form_ {w : World} {lo : Nat} {rs : List Row} {v : Value} {L : List Lgr} {H : List Hnd} {q : Int} (h : TreeS rs v L H q) (hr : Rows w lo rs) : ∃ A1 n1 k1 A2 n2 k2, v = .agg #[.slice A1 n1 k1, .slice A2 n2 k2, .int .i64 q] ∧ n1 = L.length ∧ n2 = H.length := by
  obtain ⟨v1, v2, ls, hs, rfl, hL, hH, rfl⟩ := h
  obtain ⟨A1, k1, rfl, _, _⟩ := (Sl.of_own (show w.ownsRow _ 72 6 v1 ls.length (ls.flatMap lcells) from hr.left.head)).form
  obtain ⟨A2, k2, rfl, _, _⟩ := (Sl.of_own (show w.ownsRow _ 47 3 v2 hs.length (hs.flatMap hcells) from hr.right.head)).form
  exact ⟨A1, _, k1, A2, _, k2, rfl, by rw [← hL]; simp [lsOf], by rw [← hH]; simp [hsOf]⟩
end Go.Proofs.YtioegkcekbkblaaGreat
