/-
  Field: how slices of them lie in memory, and the walks of what the laws do with them (sized, copied, compared, marked, held). By gen_flat.py.
-/
import Derived.Test.YtlifaeleoiodkaaGreatDoorHelps
namespace Go.Proofs.YtlifaeleoiodkaaGreatDoor
open Go.RowKit Nm
set_option linter.unusedSimpArgs false
set_option linter.unusedVariables false

structure Fld where
  ky : List UInt8
  vl : List UInt8
deriving DecidableEq
def fdcells (x : Fld) : List Value := [txt x.ky, txt x.vl]
theorem fdcells_len (x : Fld) : (fdcells x).length = 2 := rfl
def fdcellsFit (x : Fld) : Prop := x.ky.length ≤ maxTxt ∧ x.vl.length ≤ maxTxt
def Flds (w : World) (B n : Nat) (v : Value) (l : List Fld) : Prop := Sl w B 2 n v (l.flatMap fdcells) ∧ ∀ x ∈ l, fdcellsFit x
section
variable {w w' : World} {B B' n : Nat} {v : Value} {l : List Fld}
theorem Flds.below (h : Flds w B n v l) (hb : Below B' w w') (hB : B ≤ B') : Flds w' B n v l := ⟨h.1.below hb hB, h.2⟩
theorem Flds.more (h : Flds w B n v l) (hB : B ≤ B') : Flds w B' n v l := ⟨h.1.more hB, h.2⟩
theorem Flds.count (h : Flds w B n v l) : l.length = n := Sl.count fdcells_len h.1 (by omega)
end
/-- element k: its cells -/
theorem fdcells_at {w : World} {B n c : Nat} {A : Option Addr} {l : List Fld} (h : Sl w B 2 n (.slice A n c) (l.flatMap fdcells)) {k : Nat} (hk : k < n) :
    ∃ (b o : Nat) (ky : ByteArray) (vl : ByteArray), A = some ⟨b, o, none⟩ ∧ b < B ∧ l[k]? = some ⟨ky.data.toList, vl.data.toList⟩ ∧ w.cell? ⟨b, o + k * 2, none⟩ = some (.string ky) ∧ w.cell? ⟨b, o + k * 2 + 1, none⟩ = some (.string vl) := by
  obtain ⟨b, o, x, e, hb, hx, hc⟩ := Sl.elem fdcells_len h (by omega) hk
  obtain ⟨ky, vl⟩ := x
  exact ⟨b, o, ⟨ky.toArray⟩, ⟨vl.toArray⟩, e, hb, by simpa using hx, hc 0 _ rfl, hc 1 _ rfl⟩
theorem fdcells_fit {l : List Fld} {k : Nat} {ky : ByteArray} {vl : ByteArray} (h : ∀ x ∈ l, fdcellsFit x) (hx : l[k]? = some ⟨ky.data.toList, vl.data.toList⟩) : ky.size ≤ maxTxt ∧ vl.size ≤ maxTxt := by
  have := h _ (List.mem_of_getElem? hx)
  simpa [fdcellsFit, ← Lib.size_eq] using this

theorem fdcells_one (l : List Fld) : ∀ u ∈ l.flatMap fdcells, u.oneCell' = true := by
  intro u hu
  obtain ⟨x, _, hx⟩ := List.mem_flatMap.1 hu
  simp only [fdcells, List.mem_cons, List.not_mem_nil, or_false] at hx
  rcases hx with rfl | rfl <;> rfl
def fdcellsKinds : List Bool := [true, true]

end Go.Proofs.YtlifaeleoiodkaaGreatDoor
