/-
  Sent: how slices of them lie in memory, and the walks of what the laws do with them (sized, copied, compared, marked, held). By gen_flat.py.
-/
import Derived.Test.YteekkccgdkmjoaaGRecord
import Derived.Test.YteekkccgdkmjoaaHelps
namespace Go.Proofs.Yteekkccgdkmjoaa
open Go.RowKit Nm
set_option linter.unusedSimpArgs false
set_option linter.unusedVariables false

structure Snt where
  lg : List UInt8
  hd : List UInt8
  rc : Rec
deriving DecidableEq
def sncells (x : Snt) : List Value := [txt x.lg, txt x.hd, txt x.rc.nm, .int .i64 x.rc.lv, txt x.rc.tx, .int .i64 x.rc.sq]
theorem sncells_len (x : Snt) : (sncells x).length = 6 := rfl
def sncellsFit (x : Snt) : Prop := x.lg.length ≤ maxTxt ∧ x.hd.length ≤ maxTxt ∧ x.rc.nm.length ≤ maxTxt ∧ x.rc.tx.length ≤ maxTxt
def Snts (w : World) (B n : Nat) (v : Value) (l : List Snt) : Prop := Sl w B 6 n v (l.flatMap sncells) ∧ ∀ x ∈ l, sncellsFit x
section
variable {w w' : World} {B B' n : Nat} {v : Value} {l : List Snt}
theorem Snts.below (h : Snts w B n v l) (hb : Below B' w w') (hB : B ≤ B') : Snts w' B n v l := ⟨h.1.below hb hB, h.2⟩
theorem Snts.more (h : Snts w B n v l) (hB : B ≤ B') : Snts w B' n v l := ⟨h.1.more hB, h.2⟩
theorem Snts.count (h : Snts w B n v l) : l.length = n := Sl.count sncells_len h.1 (by omega)
end
/-- element k: its cells -/
theorem sncells_at {w : World} {B n c : Nat} {A : Option Addr} {l : List Snt} (h : Sl w B 6 n (.slice A n c) (l.flatMap sncells)) {k : Nat} (hk : k < n) :
    ∃ (b o : Nat) (lg : ByteArray) (hd : ByteArray) (nm : ByteArray) (lv : Int) (tx : ByteArray) (sq : Int), A = some ⟨b, o, none⟩ ∧ b < B ∧ l[k]? = some ⟨lg.data.toList, hd.data.toList, ⟨nm.data.toList, lv, tx.data.toList, sq⟩⟩ ∧ w.cell? ⟨b, o + k * 6, none⟩ = some (.string lg) ∧ w.cell? ⟨b, o + k * 6 + 1, none⟩ = some (.string hd) ∧ w.cell? ⟨b, o + k * 6 + 2, none⟩ = some (.string nm) ∧ w.cell? ⟨b, o + k * 6 + 3, none⟩ = some (.int .i64 lv) ∧ w.cell? ⟨b, o + k * 6 + 4, none⟩ = some (.string tx) ∧ w.cell? ⟨b, o + k * 6 + 5, none⟩ = some (.int .i64 sq) := by
  obtain ⟨b, o, x, e, hb, hx, hc⟩ := Sl.elem sncells_len h (by omega) hk
  obtain ⟨lg, hd, ⟨nm, lv, tx, sq⟩⟩ := x
  exact ⟨b, o, ⟨lg.toArray⟩, ⟨hd.toArray⟩, ⟨nm.toArray⟩, lv, ⟨tx.toArray⟩, sq, e, hb, by simpa using hx, hc 0 _ rfl, hc 1 _ rfl, hc 2 _ rfl, hc 3 _ rfl, hc 4 _ rfl, hc 5 _ rfl⟩
theorem sncells_fit {l : List Snt} {k : Nat} {lg : ByteArray} {hd : ByteArray} {nm : ByteArray} {lv : Int} {tx : ByteArray} {sq : Int} (h : ∀ x ∈ l, sncellsFit x) (hx : l[k]? = some ⟨lg.data.toList, hd.data.toList, ⟨nm.data.toList, lv, tx.data.toList, sq⟩⟩) : lg.size ≤ maxTxt ∧ hd.size ≤ maxTxt ∧ nm.size ≤ maxTxt ∧ tx.size ≤ maxTxt := by
  have := h _ (List.mem_of_getElem? hx)
  simpa [sncellsFit, ← Lib.size_eq] using this

theorem sncells_one (l : List Snt) : ∀ u ∈ l.flatMap sncells, u.oneCell' = true := by
  intro u hu
  obtain ⟨x, _, hx⟩ := List.mem_flatMap.1 hu
  simp only [sncells, List.mem_cons, List.not_mem_nil, or_false] at hx
  rcases hx with rfl | rfl | rfl | rfl | rfl | rfl <;> rfl
def sncellsKinds : List Bool := [true, true, true, false, true, false]

end Go.Proofs.Yteekkccgdkmjoaa
