/-
  Warning: how slices of them lie in memory, and the walks of what the laws do with them (sized, copied, compared, marked, held). By gen_flat.py.
-/
import Derived.Test.YthggedmgjehfiaaHelps
namespace Go.Proofs.Ythggedmgjehfiaa
open Go.RowKit Nm
set_option linter.unusedSimpArgs false
set_option linter.unusedVariables false

structure Wrn where
  tx : List UInt8
  md : List UInt8
  ln : Int
deriving DecidableEq
def wncells (x : Wrn) : List Value := [txt x.tx, txt x.md, .int .i64 x.ln]
theorem wncells_len (x : Wrn) : (wncells x).length = 3 := rfl
def wncellsFit (x : Wrn) : Prop := x.tx.length ≤ maxTxt ∧ x.md.length ≤ maxTxt
def Wrns (w : World) (B n : Nat) (v : Value) (l : List Wrn) : Prop := Sl w B 3 n v (l.flatMap wncells) ∧ ∀ x ∈ l, wncellsFit x
section
variable {w w' : World} {B B' n : Nat} {v : Value} {l : List Wrn}
theorem Wrns.below (h : Wrns w B n v l) (hb : Below B' w w') (hB : B ≤ B') : Wrns w' B n v l := ⟨h.1.below hb hB, h.2⟩
theorem Wrns.more (h : Wrns w B n v l) (hB : B ≤ B') : Wrns w B' n v l := ⟨h.1.more hB, h.2⟩
theorem Wrns.count (h : Wrns w B n v l) : l.length = n := Sl.count wncells_len h.1 (by omega)
end
/-- element k: its cells -/
theorem wncells_at {w : World} {B n c : Nat} {A : Option Addr} {l : List Wrn} (h : Sl w B 3 n (.slice A n c) (l.flatMap wncells)) {k : Nat} (hk : k < n) :
    ∃ (b o : Nat) (tx : ByteArray) (md : ByteArray) (ln : Int), A = some ⟨b, o, none⟩ ∧ b < B ∧ l[k]? = some ⟨tx.data.toList, md.data.toList, ln⟩ ∧ w.cell? ⟨b, o + k * 3, none⟩ = some (.string tx) ∧ w.cell? ⟨b, o + k * 3 + 1, none⟩ = some (.string md) ∧ w.cell? ⟨b, o + k * 3 + 2, none⟩ = some (.int .i64 ln) := by
  obtain ⟨b, o, x, e, hb, hx, hc⟩ := Sl.elem wncells_len h (by omega) hk
  obtain ⟨tx, md, ln⟩ := x
  exact ⟨b, o, ⟨tx.toArray⟩, ⟨md.toArray⟩, ln, e, hb, by simpa using hx, hc 0 _ rfl, hc 1 _ rfl, hc 2 _ rfl⟩
theorem wncells_fit {l : List Wrn} {k : Nat} {tx : ByteArray} {md : ByteArray} {ln : Int} (h : ∀ x ∈ l, wncellsFit x) (hx : l[k]? = some ⟨tx.data.toList, md.data.toList, ln⟩) : tx.size ≤ maxTxt ∧ md.size ≤ maxTxt := by
  have := h _ (List.mem_of_getElem? hx)
  simpa [wncellsFit, ← Lib.size_eq] using this

theorem wncells_one (l : List Wrn) : ∀ u ∈ l.flatMap wncells, u.oneCell' = true := by
  intro u hu
  obtain ⟨x, _, hx⟩ := List.mem_flatMap.1 hu
  simp only [wncells, List.mem_cons, List.not_mem_nil, or_false] at hx
  rcases hx with rfl | rfl | rfl <;> rfl
def wncellsKinds : List Bool := [true, true, false]

end Go.Proofs.Ythggedmgjehfiaa
