/-
  DRAWS: a tree and a name. By gen_e5.py.
-/
import Derived.Test.YtjejildgbmkbbaaE4
namespace Go.Proofs.Ytjejildgbmkbbaa
open Go.RowKit Nm
set_option linter.unusedSimpArgs false
set_option linter.unusedVariables false

def NamedDraw (R p dp : Nat) (w : World) (e : Ending) (w' : World) : Prop :=
  ∃ (v : Value) (rs : List Row) (L : List Lgr) (H : List Hnd) (q : Int) (nm : ByteArray) (p' : Nat), e = .returned (.tuple #[v, .string nm]) ∧ TreeS rs v L H q ∧ treeSm 9 L H ∧ nm.size ≤ 20 ∧ Rows w' w.heap.size rs ∧ p' ≤ p + dp ∧ Rdr w' R p' ∧ w.grownBy w' (some R)
/-- drawn for a law: a tree -/
def DrawTree (w : World) (e : Ending) (w' : World) : Prop :=
  ∃ (v : Value) (rs : List Row) (L : List Lgr) (H : List Hnd) (q : Int), e = .returned v ∧ TreeS rs v L H q ∧ treeSm 9 L H ∧ Rows w' w.heap.size rs ∧ Below w.heap.size w w'
/-- drawn for a law: a tree and a name -/
def DrawNamed (w : World) (e : Ending) (w' : World) : Prop :=
  ∃ (v : Value) (rs : List Row) (L : List Lgr) (H : List Hnd) (q : Int) (nm : ByteArray), e = .returned (.tuple #[v, .string nm]) ∧ TreeS rs v L H q ∧ treeSm 9 L H ∧ nm.size ≤ 20 ∧ Rows w' w.heap.size rs ∧ Below w.heap.size w w'
/-- drawn for a law: a tree, a name, and a number -/
def DrawNamedN (w : World) (e : Ending) (w' : World) : Prop :=
  ∃ (v : Value) (rs : List Row) (L : List Lgr) (H : List Hnd) (q : Int) (nm : ByteArray) (z : Int), e = .returned (.tuple #[v, .string nm, .int .i64 z]) ∧ TreeS rs v L H q ∧ treeSm 9 L H ∧ nm.size ≤ 20 ∧ (-1 ≤ z ∧ z ≤ 61) ∧ Rows w' w.heap.size rs ∧ Below w.heap.size w w'
theorem TreeS.form_ {w : World} {lo : Nat} {rs : List Row} {v : Value} {L : List Lgr} {H : List Hnd} {q : Int} (h : TreeS rs v L H q) (hr : Rows w lo rs) : ∃ A1 n1 k1 A2 n2 k2, v = .agg #[.slice A1 n1 k1, .slice A2 n2 k2, .int .i64 q] ∧ n1 = L.length ∧ n2 = H.length := by
  obtain ⟨v1, v2, ls, hs, rfl, hL, hH, rfl⟩ := h
  obtain ⟨A1, k1, rfl, _, _⟩ := (Sl.of_own (show w.ownsRow _ 48 6 v1 ls.length (ls.flatMap lcells) from hr.left.head)).form
  obtain ⟨A2, k2, rfl, _, _⟩ := (Sl.of_own (show w.ownsRow _ 59 3 v2 hs.length (hs.flatMap hcells) from hr.right.head)).form
  exact ⟨A1, _, k1, A2, _, k2, rfl, by rw [← hL]; simp [lsOf], by rw [← hH]; simp [hsOf]⟩
theorem three_set {w : World} {b rb : Nat} {c0 c1 c2 u0 u1 u2 : Value} (hne : rb ≠ b) (h : w.cell? ⟨b, 0, none⟩ = some c0 ∧ w.cell? ⟨b, 1, none⟩ = some c1 ∧ w.cell? ⟨b, 2, none⟩ = some c2) :
    (((w.setCell ⟨rb, 0, none⟩ u0).setCell ⟨rb, 1, none⟩ u1).setCell ⟨rb, 2, none⟩ u2).cell? ⟨b, 0, none⟩ = some c0 ∧ (((w.setCell ⟨rb, 0, none⟩ u0).setCell ⟨rb, 1, none⟩ u1).setCell ⟨rb, 2, none⟩ u2).cell? ⟨b, 1, none⟩ = some c1 ∧ (((w.setCell ⟨rb, 0, none⟩ u0).setCell ⟨rb, 1, none⟩ u1).setCell ⟨rb, 2, none⟩ u2).cell? ⟨b, 2, none⟩ = some c2 :=
  ⟨(World.cell?_setCell_far _ _ _ _ hne).trans ((World.cell?_setCell_far _ _ _ _ hne).trans ((World.cell?_setCell_far _ _ _ _ hne).trans h.1)), (World.cell?_setCell_far _ _ _ _ hne).trans ((World.cell?_setCell_far _ _ _ _ hne).trans ((World.cell?_setCell_far _ _ _ _ hne).trans h.2.1)), (World.cell?_setCell_far _ _ _ _ hne).trans ((World.cell?_setCell_far _ _ _ _ hne).trans ((World.cell?_setCell_far _ _ _ _ hne).trans h.2.2))⟩
theorem one_set {w : World} {b j rb : Nat} {c0 u0 u1 u2 : Value} (hne : rb ≠ b) (h : w.cell? ⟨b, j, none⟩ = some c0) : (((w.setCell ⟨rb, 0, none⟩ u0).setCell ⟨rb, 1, none⟩ u1).setCell ⟨rb, 2, none⟩ u2).cell? ⟨b, j, none⟩ = some c0 :=
  (World.cell?_setCell_far _ _ _ _ hne).trans ((World.cell?_setCell_far _ _ _ _ hne).trans ((World.cell?_setCell_far _ _ _ _ hne).trans h))

end Go.Proofs.Ytjejildgbmkbbaa
