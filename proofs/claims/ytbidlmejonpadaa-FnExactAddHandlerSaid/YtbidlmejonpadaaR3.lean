/-
  RECORDS: ValidRecords, RecordsOf, DropRepeats of both.
-/
import Derived.Test.YtbidlmejonpadaaR2
import Derived.Deep.QuietTactic
import Derived.BigQuiet
import Derived.Deep.RegionHeld3
namespace Go.Proofs.Ytbidlmejonpadaa
open Go.RowKit Nm
set_option linter.unusedSimpArgs false
set_option linter.unusedVariables false

theorem own_apart {w w' : World} {base n sz m : Nat} {e : TypeId} {v : Value} {xs : List Value} (h : w.ownsRow base e sz v n xs) (hg : w.grownBy w' (some m)) (hm : m < base) : w'.ownsRow base e sz v n xs :=
  h.kept hg (by
    cases hq : v.ownBlock with
    | none => exact .inl rfl
    | some g => right; intro e; cases e; have := own_lt h _ hq; omega)
theorem own_dr {w : World} {base n sz : Nat} {e : TypeId} {v : Value} {xs : List Value} (h : w.ownsRow base e sz v n xs) (k : Nat) : (w.drewN k).ownsRow base e sz v n xs := own_below h (below_dr (Below.refl _ _) k)
theorem eq_bool (p q : ByteArray) : ∃ a : Bool, (p.toList == q.toList) = a ∧ decide (q.data.toList = p.data.toList) = a := by
  by_cases h : p.data.toList = q.data.toList
  · exact ⟨true, eq_true_of h, decide_eq_true h.symm⟩
  · exact ⟨false, eq_false_of h, decide_eq_false fun e => h e.symm⟩
theorem eq_bool_i (p q : Int) : ∃ a : Bool, (p == q) = a ∧ decide (q = p) = a := by
  by_cases h : p = q
  · exact ⟨true, by simpa using h, decide_eq_true h.symm⟩
  · exact ⟨false, by simpa using h, decide_eq_false fun e => h e.symm⟩
/-- what a loop collects, round by round -/
def rounds {α : Type} (f : Nat → List α) (n : Nat) : List α := (List.range n).flatMap f
theorem rounds_zero {α : Type} (f : Nat → List α) : rounds f 0 = [] := rfl
theorem rounds_succ' {α : Type} (f : Nat → List α) (n : Nat) : rounds f (n + 1) = rounds f n ++ f n := by
  unfold rounds; rw [List.range_succ, List.flatMap_append]; simp
theorem rounds_len {α : Type} (f : Nat → List α) (hf : ∀ i, (f i).length ≤ 1) (n : Nat) : (rounds f n).length ≤ n := by
  induction n with
  | zero => simp [rounds]
  | succ n ih => rw [rounds_succ', List.length_append]; have := hf n; omega
theorem rounds_hit {α : Type} {f : Nat → List α} {n : Nat} {x : α} (h : f n = [x]) : rounds f (n + 1) = rounds f n ++ [x] := by rw [rounds_succ', h]
theorem rounds_miss {α : Type} {f : Nat → List α} {n : Nat} (h : f n = []) : rounds f (n + 1) = rounds f n := by rw [rounds_succ', h, List.append_nil]
/-- element k, if p says so -/
def pickIf {α : Type} (l : List α) (p : Nat → α → Bool) (k : Nat) : List α := match l[k]? with
  | some x => if p k x then [x] else []
  | none => []
theorem pickIf_len {α : Type} (l : List α) (p : Nat → α → Bool) (k : Nat) : (pickIf l p k).length ≤ 1 := by
  unfold pickIf; split
  · split <;> simp
  · simp
theorem pickIf_hit {α : Type} {l : List α} {p : Nat → α → Bool} {k : Nat} {x : α} (h : l[k]? = some x) (hp : p k x = true) : pickIf l p k = [x] := by unfold pickIf; rw [h]; simp [hp]
theorem pickIf_miss {α : Type} {l : List α} {p : Nat → α → Bool} {k : Nat} {x : α} (h : l[k]? = some x) (hp : p k x = false) : pickIf l p k = [] := by unfold pickIf; rw [h]; simp [hp]

/-- two records that differ in their numbers alone -/
def alike (x y : Rec) : Bool := decide (x.nm = y.nm) && (decide (x.lv = y.lv) && decide (x.tx = y.tx))
def recsOf (l : List Snt) (x : List UInt8) : List Rec := (rounds (pickIf l fun _ s => decide (s.hd = x)) l.length).map (·.rc)
theorem recs_le (l : List Snt) (x : List UInt8) (k : Nat) : ((rounds (pickIf l fun _ s => decide (s.hd = x)) k).map (·.rc)).length ≤ k := by
  rw [List.length_map]; exact rounds_len _ (fun i => pickIf_len _ _ i) k

theorem recsOf_len (l : List Snt) (x : List UInt8) : (recsOf l x).length ≤ l.length := recs_le l x _
end Go.Proofs.Ytbidlmejonpadaa
