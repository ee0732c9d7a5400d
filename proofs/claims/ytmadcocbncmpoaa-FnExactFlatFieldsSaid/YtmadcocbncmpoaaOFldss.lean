/-
  Slices of slices ([]Field): an argument that holds them. By gen_nest.py.
-/
import Derived.Test.YtmadcocbncmpoaaKFldss
import Derived.Test.YtmadcocbncmpoaaOField
namespace Go.Proofs.Ytmadcocbncmpoaa
open Go.RowKit Nm Go.ChangeShapes Go.WideShapes Go.Deep
set_option linter.unusedSimpArgs false
set_option linter.unusedVariables false

theorem flatMap_one {α : Type} (g : α → Value) (l : List α) : l.flatMap (fun x => [g x]) = l.map g := by
  induction l with
  | nil => rfl
  | cons a l ih => simp [ih]
instance : Inhabited Value := ⟨.slice none 0 0⟩
theorem openFldss {H : Type} {enc : TypeId × Value → H} {W : World} {base n : Nat} {sp : Nat → Bool} {hd : Bool} {v : Value} {x : DataW H × List MemPlace}
    (h : DataW.trod enc Try.prog W base sp hd n 22 [v] = some x) : ∃ A n c L, v = .slice A n c ∧ FldssRaw W W.heap.size A n c L := by
  obtain ⟨l, k, h1, h2⟩ := open_rows (fun x : Value × (List Fld) => [x.1]) 1 (fun _ => rfl) (by omega) (fun x => ∃ A n c, x.1 = .slice A n c ∧ FldsRaw W W.heap.size A n c x.2) Try.underlying22 (by kernel_rfl) (fun m cs y hy => by
    have hcs : ∃ A n c, cs = [.slice A n c] := by
      rcases open_slice Try.underlying34 hy with ⟨hcs, _⟩ | ⟨a, n0, c0, m, n, D, Pl, hcs, _⟩
      · exact ⟨_, _, _, hcs⟩
      · exact ⟨_, _, _, hcs⟩
    obtain ⟨A, n, c, rfl⟩ := hcs
    obtain ⟨l, n', s, m⟩ := open_rows fdcells 2 fdcells_len (by omega) (fun y => y.ky.length ≤ maxLen ∧ y.vl.length ≤ maxLen) Try.underlying34 (by kernel_rfl) (fun _ _ _ h => openField h) hy
    obtain ⟨A', c', e, _, _⟩ := s.form
    injection e with e1 e2 e3
    subst e2
    exact ⟨(.slice A n c, l), rfl, A, n, c, rfl, s, m⟩) h
  rw [flatMap_one] at h1
  obtain ⟨A, c, rfl, _, _⟩ := h1.form
  have hl : l.length = k := by have := h1.1; simpa using this
  refine ⟨A, k, c, l.map (·.2), rfl, l.map (·.1), by rw [List.length_map, hl]; exact h1, fun i u q hu hq => ?_⟩
  rw [List.getElem?_map] at hu hq
  cases hx : l[i]? with
  | none => rw [hx] at hu; cases hu
  | some e => rw [hx] at hu hq; cases hu; cases hq; exact h2 e (List.mem_of_getElem? hx)
end Go.Proofs.Ytmadcocbncmpoaa
