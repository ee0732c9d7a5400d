/-
  E6, E10, E7, E8, E11, E9, E12, E15, E16 laid together.
-/
import Derived.Test.YtioegkcekbkblaaGreatZyE5
import Derived.Test.YtioegkcekbkblaaGreatZyLookI
import Derived.Test.YtioegkcekbkblaaGreatZyLookS
import Derived.Test.YtioegkcekbkblaaGreatZyUM
import Derived.Test.YtioegkcekbkblaaGreatZyCM
/-
  DRAWS of the laws over trees. By gen_e5.py.
-/
namespace Go.Proofs.YtioegkcekbkblaaGreat
open Go.RowKit Nm
set_option linter.unusedSimpArgs false
set_option linter.unusedVariables false
theorem IsRow.leT {k : IntKind} {w : World} {a : Option Addr} {len cap : Nat} {z : List Int} (h : IsRow k w a len cap z) : len ≤ 9223372036854775807 := by
  rcases h with ⟨_, h, _, _⟩ | ⟨x, _, h1, h2, _⟩
  · omega
  · unfold maxLen at h2; omega
theorem IsRow.belowT {k : IntKind} {w w' : World} {a : Option Addr} {len cap : Nat} {z : List Int} (h : IsRow k w a len cap z) (hb : Below w.heap.size w w') : IsRow k w' a len cap z := by
  rcases h with h | ⟨x, h0, h1, h2, h3, h4, h5⟩
  · exact .inl h
  · exact .inr ⟨x, h0, h1, h2, h3, fun i hi => (hb.cell (World.block_lt_of_cell? w _ (h4 i hi))).trans (h4 i hi), h5⟩

end Go.Proofs.YtioegkcekbkblaaGreat

/-
  DRAWS: a tree and the name of a handler. By gen_e10.py.
-/
namespace Go.Proofs.YtioegkcekbkblaaGreat
open Go.RowKit Nm
set_option linter.unusedSimpArgs false
set_option linter.unusedVariables false

end Go.Proofs.YtioegkcekbkblaaGreat

/-
  PLAIN: what the laws over trees ask of a valid tree; a tree cut.
-/
namespace Go.Proofs.YtioegkcekbkblaaGreat
open Go.RowKit Nm
set_option linter.unusedSimpArgs false
set_option linter.unusedVariables false

theorem flat_take {α : Type} (f : α → List Value) (d : Nat) (hf : ∀ x, (f x).length = d) (l : List α) (k : Nat) : (l.flatMap f).take (k * d) = (l.take k).flatMap f := by
  induction l generalizing k with
  | nil => simp
  | cons a t ih =>
    cases k with
    | zero => simp
    | succ k => rw [List.flatMap_cons, List.take_succ_cons, List.flatMap_cons, List.take_append, hf, List.take_of_length_le (by rw [hf, Nat.add_mul]; omega), show (k + 1) * d - d = k * d by rw [Nat.add_mul]; omega, ih]
theorem Sl.cutN {w : World} {B n c d : Nat} {A : Option Addr} {xs : List Value} (h : Sl w B d n (.slice A n c) xs) {k : Nat} (hk : k ≤ n) : Sl w B d k (.slice A k c) (xs.take (k * d)) := by
  obtain ⟨hl, A', c', he, h2, h3, h4⟩ := h
  obtain ⟨rfl, rfl⟩ : A = A' ∧ c = c' := by simpa using he
  refine ⟨by rw [List.length_take, hl, Nat.min_eq_left (Nat.mul_le_mul_right d hk)], A, c, rfl, by omega, h3, fun hk0 => ?_⟩
  obtain ⟨b, o, e, hb, hc⟩ := h4 (by omega)
  refine ⟨b, o, e, hb, fun j u hu => hc j u ?_⟩
  rw [List.getElem?_take] at hu
  split at hu
  · exact hu
  · cases hu
/-- a tree's first loggers -/
theorem TreeIn.cut {w : World} {B n1 k1 n2 k2 : Nat} {A1 A2 : Option Addr} {L : List Lgr} {H : List Hnd} {q : Int} (h : TreeIn w B (.agg #[.slice A1 n1 k1, .slice A2 n2 k2, .int .i64 q]) L H q) {k : Nat} (hk : k ≤ n1) :
    TreeIn w B (.agg #[.slice A1 k k1, .slice A2 n2 k2, .int .i64 q]) (L.take k) H q := by
  obtain ⟨ls, hs, ⟨A1', n1', k1', A2', n2', k2', e, h1, h2, h3, h4, h5⟩, rfl, rfl⟩ := h
  simp at e
  obtain ⟨⟨rfl, rfl, rfl⟩, ⟨rfl, rfl, rfl⟩⟩ := e
  refine ⟨ls.take k, hs, ⟨A1, k, k1, A2, n2, k2, rfl, ⟨?_, fun x hx => h1.2 x (List.mem_of_mem_take hx)⟩, h2, by omega, h4, fun x hx => h5 x (List.mem_of_mem_take hx)⟩, by simp [lsOf], rfl⟩
  rw [← flat_take lcells 6 lcells_len]
  exact h1.1.cutN hk
/-- the name of logger k -/
theorem TreeIn.name {w : World} {B n1 k1 n2 k2 : Nat} {A1 A2 : Option Addr} {L : List Lgr} {H : List Hnd} {q : Int} (h : TreeIn w B (.agg #[.slice A1 n1 k1, .slice A2 n2 k2, .int .i64 q]) L H q) {k : Nat} (hk : k < n1) :
    ∃ (b o : Nat) (x : Lgr) (s : ByteArray), A1 = some ⟨b, o, none⟩ ∧ b < B ∧ L[k]? = some x ∧ s.data.toList = x.nm ∧ s.size ≤ maxTxt ∧ w.cell? ⟨b, o + k * 6, none⟩ = some (.string s) ∧ w.cell? ⟨b, o + k * 6 + 1, none⟩ = some (.int .i64 x.lv) := by
  obtain ⟨ls, hl, rfl⟩ := h.loggers
  obtain ⟨b, o, x, s, e, hb, hx, hs, hz, _, _, c0, c1, _⟩ := hl.at_ hk
  exact ⟨b, o, x.l, s, e, hb, by unfold lsOf; rw [List.getElem?_map, hx]; rfl, hs, hz, c0, c1⟩
section
variable {L : List Lgr} {H : List Hnd} {q : Int} {k : Nat} {l : Lgr} {x : Name}
end
end Go.Proofs.YtioegkcekbkblaaGreat

/-
  PLAIN: paths and parents; laws.hasText.
-/
namespace Go.Proofs.YtioegkcekbkblaaGreat
open Go.RowKit Nm
set_option linter.unusedSimpArgs false
set_option linter.unusedVariables false

end Go.Proofs.YtioegkcekbkblaaGreat

/-
  LAWS OF USERS, plain: a logger is a user just if it has the handler. By gen_users.py.
-/
namespace Go.Proofs.YtioegkcekbkblaaGreat
open Go.RowKit Nm
set_option linter.unusedSimpArgs false
set_option linter.unusedVariables false

end Go.Proofs.YtioegkcekbkblaaGreat

/-
  PLAIN: how many loggers are on a path, and in what order.
-/
namespace Go.Proofs.YtioegkcekbkblaaGreat
open Go.RowKit Nm
set_option linter.unusedSimpArgs false
set_option linter.unusedVariables false

end Go.Proofs.YtioegkcekbkblaaGreat

/-
  PLAIN: a branch is the logger and the branches of its children; the logger is on the path of each of the branch.
-/
namespace Go.Proofs.YtioegkcekbkblaaGreat
open Go.RowKit Nm
set_option linter.unusedSimpArgs false
set_option linter.unusedVariables false

end Go.Proofs.YtioegkcekbkblaaGreat

/-
  PLAIN: trees with one logger changed: what stays.
-/
namespace Go.Proofs.YtioegkcekbkblaaGreat
open Go.RowKit Nm
set_option linter.unusedSimpArgs false
set_option linter.unusedVariables false

end Go.Proofs.YtioegkcekbkblaaGreat

/-
  PLAIN: trees with the level of one logger changed.
-/
namespace Go.Proofs.YtioegkcekbkblaaGreat
open Go.RowKit Nm
set_option linter.unusedSimpArgs false
set_option linter.unusedVariables false

end Go.Proofs.YtioegkcekbkblaaGreat
