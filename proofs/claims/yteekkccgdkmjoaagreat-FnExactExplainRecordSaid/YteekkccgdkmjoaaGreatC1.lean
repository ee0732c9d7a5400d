/-
  TREES copied: the program's freshList, copyTree.
-/
import Derived.Test.YteekkccgdkmjoaaGreatMarks
namespace Go.Proofs.YteekkccgdkmjoaaGreat
open Go.RowKit Nm
set_option linter.unusedSimpArgs false
set_option linter.unusedVariables false

theorem txts_one (l : List (List UInt8)) : ∀ u ∈ l.map txt, u.oneCell' = true := by
  intro u hu; obtain ⟨x, _, rfl⟩ := List.mem_map.1 hu; rfl
theorem flts_one (l : List Flt) : ∀ u ∈ fsCells l, u.oneCell' = true := by
  intro u hu
  obtain ⟨x, _, hx⟩ := List.mem_flatMap.1 hu
  simp only [fcells, List.mem_cons, List.not_mem_nil, or_false] at hx
  rcases hx with rfl | rfl | rfl <;> rfl
def sliceV (v : Value) : Prop := ∃ A n c, v = .slice A n c
theorem lgrs_one (l : List LgrV) (h : ∀ x ∈ l, sliceV x.hv ∧ sliceV x.fv) : ∀ u ∈ l.flatMap lcells, u.oneCell' = true := by
  intro u hu
  obtain ⟨x, hxm, hx⟩ := List.mem_flatMap.1 hu
  obtain ⟨⟨A, n, c, e1⟩, ⟨A', n', c', e2⟩⟩ := h x hxm
  simp only [lcells, List.mem_cons, List.not_mem_nil, or_false] at hx
  rcases hx with rfl | rfl | rfl | rfl | rfl | rfl <;> first | rfl | (rw [e1]; rfl) | (rw [e2]; rfl)
theorem hnds_one (l : List HndV) (h : ∀ x ∈ l, sliceV x.fv) : ∀ u ∈ l.flatMap hcells, u.oneCell' = true := by
  intro u hu
  obtain ⟨x, hxm, hx⟩ := List.mem_flatMap.1 hu
  obtain ⟨A', n', c', e2⟩ := h x hxm
  simp only [hcells, List.mem_cons, List.not_mem_nil, or_false] at hx
  rcases hx with rfl | rfl | rfl <;> first | rfl | (rw [e2]; rfl)

theorem Ls.slices {w : World} {B n : Nat} {v : Value} {l : List LgrV} (h : Ls w B n v l) : ∀ x ∈ l, sliceV x.hv ∧ sliceV x.fv := fun x hx => by
  obtain ⟨_, h2, h3⟩ := h.2 x hx
  obtain ⟨A, c, e, _, _⟩ := h2.1.form
  obtain ⟨A', c', e', _, _⟩ := h3.1.form
  exact ⟨⟨A, _, c, e⟩, ⟨A', _, c', e'⟩⟩
theorem Hs.slices {w : World} {B n : Nat} {v : Value} {l : List HndV} (h : Hs w B n v l) : ∀ x ∈ l, sliceV x.fv := fun x hx => by
  obtain ⟨_, h3⟩ := h.2 x hx
  obtain ⟨A', c', e', _, _⟩ := h3.1.form
  exact ⟨A', _, c', e'⟩
end Go.Proofs.YteekkccgdkmjoaaGreat
