/-
  RULES: DropCovered of both.
-/
import Derived.Test.YtlifaeleoiodkaaGreatDoorR10
import Derived.Test.YtlifaeleoiodkaaGreatDoorR11
import Derived.Test.YtlifaeleoiodkaaGreatDoorUM
import Derived.Deep.QuietTactic
import Derived.BigQuiet
import Derived.Deep.RegionHeld3
namespace Go.Proofs.YtlifaeleoiodkaaGreatDoor
open Go.RowKit Nm
set_option linter.unusedSimpArgs false
set_option linter.unusedVariables false

/-- x covers y -/
def covB (x y : Rul) : Bool := (decide (x.wd = []) || decide (x.wd = y.wd)) && (belowL y.md x.md && (decide (x.ln = 0) || decide (x.ln = y.ln)))
def freeC (l : List Rul) (k : Nat) (y : Rul) : Bool := !((l.take k).any fun x => covB x y)
def dropCov (l : List Rul) : List Rul := if rulsOk l then rounds (pickIf l (freeC l)) l.length else []
theorem dropCov_len (l : List Rul) : (dropCov l).length ≤ 6 := by
  unfold dropCov
  split
  · rename_i h
    have h1 := rounds_len (pickIf l (freeC l)) (fun i => pickIf_len _ _ i) l.length
    unfold rulsOk at h; simp only [Bool.and_eq_true, decide_eq_true_eq] at h
    omega
  · simp
theorem any_next {α : Type} {l : List α} {p : α → Bool} {k : Nat} {x : α} {b : Bool} (h : (l.take k).any p = b) (hx : l[k]? = some x) : (l.take (k + 1)).any p = (b || p x) := by
  rw [List.take_add_one, hx, List.any_append, h]; simp
theorem any_hit {α : Type} {l : List α} {p : α → Bool} {k : Nat} {x : α} (hx : l[k]? = some x) (h : p x = true) : l.any p = true := List.any_eq_true.2 ⟨x, List.mem_of_getElem? hx, h⟩
theorem eq_boolR (p q : ByteArray) : ∃ a : Bool, (p.toList == q.toList) = a ∧ decide (p.data.toList = q.data.toList) = a := by
  by_cases h : p.data.toList = q.data.toList
  · exact ⟨true, eq_true_of h, decide_eq_true h⟩
  · exact ⟨false, eq_false_of h, decide_eq_false h⟩
theorem eq_boolRi (p q : Int) : ∃ a : Bool, (p == q) = a ∧ decide (p = q) = a := ⟨decide (p = q), by by_cases h : p = q <;> simp [h], rfl⟩
theorem empty_bool (p : ByteArray) : ∃ a : Bool, p.toList.isEmpty = a ∧ decide (p.data.toList = []) = a := by
  by_cases h : p.data.toList = []
  · exact ⟨true, empty_true h, decide_eq_true h⟩
  · exact ⟨false, empty_false h, decide_eq_false h⟩

/-- a rule in a box -/
def RuleAt (w : World) (bx : Nat) (a : Int) (s m : ByteArray) (n : Int) : Prop := w.cell? ⟨bx, 0, none⟩ = some (.int .i64 a) ∧ w.cell? ⟨bx, 1, none⟩ = some (.string s) ∧ w.cell? ⟨bx, 2, none⟩ = some (.string m) ∧ w.cell? ⟨bx, 3, none⟩ = some (.int .i64 n)
theorem RuleAt.below {w w' : World} {B bx : Nat} {a n : Int} {s m : ByteArray} (h : RuleAt w bx a s m n) (hb : Below B w w') (hB : bx < B) : RuleAt w' bx a s m n :=
  ⟨(hb.cell (p := ⟨bx, 0, none⟩) hB).trans h.1, (hb.cell (p := ⟨bx, 1, none⟩) hB).trans h.2.1, (hb.cell (p := ⟨bx, 2, none⟩) hB).trans h.2.2.1, (hb.cell (p := ⟨bx, 3, none⟩) hB).trans h.2.2.2⟩

end Go.Proofs.YtlifaeleoiodkaaGreatDoor
