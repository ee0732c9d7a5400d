/-
  FIELDS: whether they are valid, by the program (the library's IndexFunc with a closure) and by the model.
-/
import Derived.Test.YtlifaeleoiodkaaGreatDoorGField
import Derived.Test.YtlifaeleoiodkaaGreatDoorUM
import Derived.Deep.QuietTactic
import Derived.BigQuiet
namespace Go.Proofs.YtlifaeleoiodkaaGreatDoor
open Go.RowKit Nm
set_option linter.unusedSimpArgs false
set_option linter.unusedVariables false

theorem flat_takeK {α : Type} (f : α → List Value) (d : Nat) (hf : ∀ x, (f x).length = d) (l : List α) (k : Nat) : (l.flatMap f).take (k * d) = (l.take k).flatMap f := by
  induction l generalizing k with
  | nil => simp
  | cons a t ih =>
    cases k with
    | zero => simp
    | succ k => rw [List.flatMap_cons, List.take_succ_cons, List.flatMap_cons, List.take_append, List.take_of_length_le (by rw [hf]; rw [Nat.add_mul]; omega), hf, show (k + 1) * d - d = k * d by rw [Nat.add_mul]; omega, ih]
theorem Sl.cutK {w : World} {B n c d : Nat} {A : Option Addr} {xs : List Value} (h : Sl w B d n (.slice A n c) xs) {k : Nat} (hk : k ≤ n) : Sl w B d k (.slice A k c) (xs.take (k * d)) := by
  obtain ⟨A', c', he, h2, h3, hl, h4⟩ := h.parts_
  obtain ⟨rfl, -, rfl⟩ : A = A' ∧ n = n ∧ c = c' := by simpa using he
  refine ⟨by rw [List.length_take, hl]; exact Nat.min_eq_left (Nat.mul_le_mul_right _ hk), A, c, rfl, by omega, h3, fun hk0 => ?_⟩
  obtain ⟨b, o, e, hb, hc⟩ := h4 (by omega)
  refine ⟨b, o, e, hb, fun j u hu => hc j u ?_⟩
  rw [List.getElem?_take] at hu
  split at hu
  · exact hu
  · cases hu
/-- p holds at all places below n -/
def allAt (p : Nat → Bool) (n : Nat) : Bool := (List.range n).all p
theorem allAt_zero (p : Nat → Bool) : allAt p 0 = true := rfl
theorem allAt_bad {p : Nat → Bool} {n k : Nat} (hk : k < n) (h : p k = false) : allAt p n = false := by
  cases hw : allAt p n with
  | false => rfl
  | true =>
    unfold allAt at hw
    rw [List.all_eq_true] at hw
    rw [hw k (List.mem_range.2 hk)] at h; cases h
theorem allAt_next {p : Nat → Bool} {k : Nat} (h : allAt p k = true) (hk : p k = true) : allAt p (k + 1) = true := by
  unfold allAt at h ⊢
  rw [List.range_succ, List.all_append, h]; simp [hk]

def keysOf (l : List Fld) : List (List UInt8) := l.map (·.ky)
/-- field i: words, and no earlier one of its key -/
def fitem (l : List Fld) (i : Nat) : Bool := match l[i]? with
  | some f => wordOk f.ky && (wordOk f.vl && !decide (f.ky ∈ (keysOf l).take i))
  | none => true
def fldsOk (l : List Fld) : Bool := allAt (fitem l) l.length && decide (l.length ≤ 5)
theorem fitem_eq {l : List Fld} {i : Nat} {f : Fld} (h : l[i]? = some f) : fitem l i = (wordOk f.ky && (wordOk f.vl && !decide (f.ky ∈ (keysOf l).take i))) := by unfold fitem; rw [h]
theorem keysOf_at {l : List Fld} {k : Nat} {f : Fld} (h : l[k]? = some f) : (keysOf l)[k]? = some f.ky := by unfold keysOf; rw [List.getElem?_map, h]; rfl
theorem idx_lt {ns : List (List UInt8)} {x : List UInt8} {k : Nat} (h : ns[k]? = some x) : decide (idxL ns x < (k : Int)) = decide (x ∈ ns.take k) := by
  have hm : x ∈ ns := List.mem_of_getElem? h
  have hk := (List.getElem?_eq_some_iff.1 h).1
  refine decide_eq_decide.2 ?_
  unfold idxL
  rw [if_pos hm]
  constructor
  · intro h1
    have h2 : ns.idxOf x < k := by omega
    have h3 : ns.idxOf x < ns.length := List.idxOf_lt_length_of_mem hm
    have h4 : (ns.take k)[ns.idxOf x]? = some x := by
      rw [List.getElem?_take_of_lt h2, List.getElem?_eq_getElem h3]; simp
    exact List.mem_of_getElem? h4
  · intro h1
    have h5 := List.idxOf_append (l₁ := ns.take k) (l₂ := ns.drop k) (a := x)
    rw [if_pos h1, List.take_append_drop] at h5
    have h6 := List.idxOf_lt_length_of_mem h1
    rw [List.length_take] at h6
    omega

end Go.Proofs.YtlifaeleoiodkaaGreatDoor
