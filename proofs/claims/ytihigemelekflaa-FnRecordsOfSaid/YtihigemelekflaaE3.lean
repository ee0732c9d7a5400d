/-
  DRAWS: a tree. By gen_e3.py.
-/
import Derived.Test.YtihigemelekflaaE2
namespace Go.Proofs.Ytihigemelekflaa
open Go.RowKit Nm
set_option linter.unusedSimpArgs false
set_option linter.unusedVariables false

theorem box6 {w : World} {lo bx : Nat} {T : TypeId} {c0 c1 c2 c3 c4 c5 : Value} {rs : List Row} (h : Rows w lo rs) (hm : bxRow T 6 bx [c0, c1, c2, c3, c4, c5] ∈ rs) :
    w.cell? ⟨bx, 0, none⟩ = some c0 ∧ w.cell? ⟨bx, 1, none⟩ = some c1 ∧ w.cell? ⟨bx, 2, none⟩ = some c2 ∧ w.cell? ⟨bx, 3, none⟩ = some c3 ∧ w.cell? ⟨bx, 4, none⟩ = some c4 ∧ w.cell? ⟨bx, 5, none⟩ = some c5 :=
  ⟨(Rows.bcell h hm rfl).1, (Rows.bcell h hm rfl).1, (Rows.bcell h hm rfl).1, (Rows.bcell h hm rfl).1, (Rows.bcell h hm rfl).1, (Rows.bcell h hm rfl).1⟩
theorem box6_alloc {w : World} {bx : Nat} {c0 c1 c2 c3 c4 c5 : Value} (hl : bx < w.heap.size) (h : w.cell? ⟨bx, 0, none⟩ = some c0 ∧ w.cell? ⟨bx, 1, none⟩ = some c1 ∧ w.cell? ⟨bx, 2, none⟩ = some c2 ∧ w.cell? ⟨bx, 3, none⟩ = some c3 ∧ w.cell? ⟨bx, 4, none⟩ = some c4 ∧ w.cell? ⟨bx, 5, none⟩ = some c5) (o : Obj) :
    (w.alloc o).cell? ⟨bx, 0, none⟩ = some c0 ∧ (w.alloc o).cell? ⟨bx, 1, none⟩ = some c1 ∧ (w.alloc o).cell? ⟨bx, 2, none⟩ = some c2 ∧ (w.alloc o).cell? ⟨bx, 3, none⟩ = some c3 ∧ (w.alloc o).cell? ⟨bx, 4, none⟩ = some c4 ∧ (w.alloc o).cell? ⟨bx, 5, none⟩ = some c5 :=
  ⟨(World.cell?_alloc_past _ _ _ hl).trans h.1, (World.cell?_alloc_past _ _ _ hl).trans h.2.1, (World.cell?_alloc_past _ _ _ hl).trans h.2.2.1, (World.cell?_alloc_past _ _ _ hl).trans h.2.2.2.1, (World.cell?_alloc_past _ _ _ hl).trans h.2.2.2.2.1, (World.cell?_alloc_past _ _ _ hl).trans h.2.2.2.2.2⟩
theorem idx_some {ls : List LgrV} {x : List UInt8} {ix : Int} (h : idxL (lnames ls) x = ix) (hn : ¬ ix < 0) : 1 ≤ ls.length := by
  rw [← h, idx_neg] at hn
  cases ls with
  | nil => exact absurd (by simp [lnames]) hn
  | cons a l => simp
theorem perm_five (a b c d e : Row) : ([a, b] ++ [c, d, e]).Perm ([d] ++ ([e, c] ++ [a, b])) :=
  (List.perm_append_comm (l₁ := [a, b]) (l₂ := [c, d, e])).trans ((List.perm_append_comm (l₁ := [c]) (l₂ := [d, e])).append_right [a, b])

end Go.Proofs.Ytihigemelekflaa
