/-
  Record: how slices of them lie in memory, and the walks of what the laws do with them (sized, copied, compared, marked, held). By gen_flat.py.
-/
import Derived.Test.YtbidlmejonpadaaHelps
namespace Go.Proofs.Ytbidlmejonpadaa
open Go.RowKit Nm
set_option linter.unusedSimpArgs false
set_option linter.unusedVariables false

theorem rcells_len (x : Rec) : (rcells x).length = 4 := rfl
def rcellsFit (x : Rec) : Prop := x.nm.length ≤ maxTxt ∧ x.tx.length ≤ maxTxt
def Rs (w : World) (B n : Nat) (v : Value) (l : List Rec) : Prop := Sl w B 4 n v (l.flatMap rcells) ∧ ∀ x ∈ l, rcellsFit x
section
variable {w w' : World} {B B' n : Nat} {v : Value} {l : List Rec}
theorem Rs.below (h : Rs w B n v l) (hb : Below B' w w') (hB : B ≤ B') : Rs w' B n v l := ⟨h.1.below hb hB, h.2⟩
theorem Rs.more (h : Rs w B n v l) (hB : B ≤ B') : Rs w B' n v l := ⟨h.1.more hB, h.2⟩
theorem Rs.count (h : Rs w B n v l) : l.length = n := Sl.count rcells_len h.1 (by omega)
end
/-- element k: its cells -/
theorem rcells_at {w : World} {B n c : Nat} {A : Option Addr} {l : List Rec} (h : Sl w B 4 n (.slice A n c) (l.flatMap rcells)) {k : Nat} (hk : k < n) :
    ∃ (b o : Nat) (nm : ByteArray) (lv : Int) (tx : ByteArray) (sq : Int), A = some ⟨b, o, none⟩ ∧ b < B ∧ l[k]? = some ⟨nm.data.toList, lv, tx.data.toList, sq⟩ ∧ w.cell? ⟨b, o + k * 4, none⟩ = some (.string nm) ∧ w.cell? ⟨b, o + k * 4 + 1, none⟩ = some (.int .i64 lv) ∧ w.cell? ⟨b, o + k * 4 + 2, none⟩ = some (.string tx) ∧ w.cell? ⟨b, o + k * 4 + 3, none⟩ = some (.int .i64 sq) := by
  obtain ⟨b, o, x, e, hb, hx, hc⟩ := Sl.elem rcells_len h (by omega) hk
  obtain ⟨nm, lv, tx, sq⟩ := x
  exact ⟨b, o, ⟨nm.toArray⟩, lv, ⟨tx.toArray⟩, sq, e, hb, by simpa using hx, hc 0 _ rfl, hc 1 _ rfl, hc 2 _ rfl, hc 3 _ rfl⟩
theorem rcells_fit {l : List Rec} {k : Nat} {nm : ByteArray} {lv : Int} {tx : ByteArray} {sq : Int} (h : ∀ x ∈ l, rcellsFit x) (hx : l[k]? = some ⟨nm.data.toList, lv, tx.data.toList, sq⟩) : nm.size ≤ maxTxt ∧ tx.size ≤ maxTxt := by
  have := h _ (List.mem_of_getElem? hx)
  simpa [rcellsFit, ← Lib.size_eq] using this

theorem rcells_one (l : List Rec) : ∀ u ∈ l.flatMap rcells, u.oneCell' = true := by
  intro u hu
  obtain ⟨x, _, hx⟩ := List.mem_flatMap.1 hu
  simp only [rcells, List.mem_cons, List.not_mem_nil, or_false] at hx
  rcases hx with rfl | rfl | rfl | rfl <;> rfl
def rcellsKinds : List Bool := [true, false, true, false]

end Go.Proofs.Ytbidlmejonpadaa
