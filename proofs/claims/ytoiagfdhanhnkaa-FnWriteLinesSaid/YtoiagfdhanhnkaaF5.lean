/-
  FILES: rolled and written files, plain.
-/
import Derived.Test.YtoiagfdhanhnkaaF3
namespace Go.Proofs.Ytoiagfdhanhnkaa
open Go.RowKit Nm
set_option linter.unusedSimpArgs false
set_option linter.unusedVariables false

def headL (L : StrssD) : TxtL := L.headD []
def rollF (d : Fil) : Fil := ⟨d.mo, d.ke, ([] :: d.li).take (d.ke.toNat + 1)⟩
def rollX (d : Fil) : Fil := if filOk d then (if (headL d.li).length = 0 then d else rollF d) else ⟨0, 0, []⟩
def putL (x : List UInt8) (L : StrssD) : StrssD := (headL L ++ [x]) :: L.tail
def fullB (d : Fil) (x : List UInt8) : Bool := decide ((0 : Int) < ((headL d.li).length : Int)) && decide (d.mo < (sizeL (headL d.li) : Int) + (x.length : Int) + 1)
def baseF (d : Fil) (x : List UInt8) : Fil := if fullB d x then rollF d else d
def writeF (d : Fil) (x : List UInt8) : Fil := ⟨d.mo, d.ke, putL x (baseF d x).li⟩
def writeX (d : Fil) (x : List UInt8) : Option Fil := if filOk d && lineOk x && filOk (writeF d x) then some (writeF d x) else none
def linesG : Fil → TxtL → Option Fil
  | d, [] => some d
  | d, x :: r => (writeX d x).bind fun e => linesG e r
def linesX (d : Fil) (l : TxtL) : Option Fil := if filOk d && linesOk l then linesG d l else none
def filOr (o : Option Fil) : Fil := o.getD ⟨0, 0, []⟩

theorem fil_fit {d : Fil} (h : filOk d = true) : FilFit d := by
  have h1 := fil_small h
  refine ⟨by unfold maxTxt; omega, fun l hl => ?_⟩
  have h2 := h1.2 l hl
  refine ⟨by unfold maxTxt; omega, fun t ht => ?_⟩
  have := (lines_len (fil_lines h l hl)).2 t ht
  unfold maxTxt; omega
theorem fil_none : FilFit ⟨0, 0, []⟩ := StrssFit.nil
theorem itemOk_down {mo : Int} {i j : Nat} {l : TxtL} (h : itemOk mo i l = true) (hi : 0 < i ∨ j = 0) : itemOk mo j l = true := by
  unfold itemOk at h ⊢
  simp only [Bool.and_eq_true, Bool.not_eq_true', Bool.and_eq_false_iff, decide_eq_false_iff_not] at h ⊢
  refine ⟨h.1, h.2.1, ?_⟩
  rcases hi with hi | rfl
  · rcases h.2.2 with h2 | h2
    · exact absurd hi h2
    · exact .inr h2
  · left; omega
theorem itemOk_nil (mo : Int) : itemOk mo 0 [] = true := by simp [itemOk, linesOk]
theorem itemOk_up {mo : Int} {i j : Nat} {l : TxtL} (h : itemOk mo i l = true) (hl : 0 < l.length) : itemOk mo j l = true := by
  unfold itemOk at h ⊢
  simp only [Bool.and_eq_true, Bool.not_eq_true', Bool.and_eq_false_iff, decide_eq_false_iff_not] at h ⊢
  refine ⟨h.1, h.2.1, .inr ?_⟩
  rw [beq_eq_false_iff_ne]; omega
theorem filOk_of {d : Fil} (h : itemsOk d.mo d.li = true) (h1 : 1 ≤ d.mo) (h2 : d.mo ≤ 120) (h3 : 1 ≤ d.ke) (h4 : d.ke ≤ 3) (h5 : 1 ≤ d.li.length) (h6 : (d.li.length : Int) ≤ d.ke + 1) : filOk d = true := by
  unfold filOk
  simp only [Bool.and_eq_true, decide_eq_true_eq]
  exact ⟨h, ⟨h1, h2⟩, ⟨h3, h4⟩, by omega, h6⟩
theorem head_at {L : StrssD} (h : 1 ≤ L.length) : L[0]? = some (headL L) := by
  cases L with
  | nil => simp at h
  | cons a t => rfl
theorem fil_roll {d : Fil} (h : filOk d = true) (hh : 0 < (headL d.li).length) : filOk (rollF d) = true := by
  have h1 := fil_parts h
  refine filOk_of (d := rollF d) ?_ h1.2.1 h1.2.2.1 h1.2.2.2.1 h1.2.2.2.2.1 ?_ ?_
  · refine items_good fun j hj => ?_
    show itemOk d.mo j ((rollF d).li.getD j []) = true
    have hj' : j < ((([] : TxtL) :: d.li).take (d.ke.toNat + 1)).length := hj
    rw [List.length_take, List.length_cons] at hj'
    show itemOk d.mo j (((([] : TxtL) :: d.li).take (d.ke.toNat + 1)).getD j []) = true
    rcases j with _ | i
    · simpa using itemOk_nil d.mo
    · obtain ⟨l, hl⟩ : ∃ l, d.li[i]? = some l := ⟨_, List.getElem?_eq_getElem (by omega)⟩
      have e : ((([] : TxtL) :: d.li).take (d.ke.toNat + 1))[i + 1]? = some l := by
        rw [List.getElem?_take_of_lt (by omega), List.getElem?_cons_succ, hl]
      rw [getD_atF e]
      have hi := items_at h1.1 hl
      by_cases h0 : 0 < i
      · exact itemOk_up hi (by
          unfold itemOk at hi
          simp only [Bool.and_eq_true, Bool.not_eq_true', Bool.and_eq_false_iff, decide_eq_false_iff_not] at hi
          rcases hi.2.2 with h2 | h2
          · exact absurd h0 h2
          · rw [beq_eq_false_iff_ne] at h2; omega)
      · obtain rfl : i = 0 := by omega
        rw [head_at h1.2.2.2.2.2.1] at hl
        cases hl
        exact itemOk_up hi hh
  · show 1 ≤ ((([] : TxtL) :: d.li).take (d.ke.toNat + 1)).length
    rw [List.length_take, List.length_cons]; omega
  · show (((([] : TxtL) :: d.li).take (d.ke.toNat + 1)).length : Int) ≤ d.ke + 1
    rw [List.length_take]; omega
theorem rollX_fit {d : Fil} : FilFit (rollX d) := by
  unfold rollX
  cases hz : filOk d with
  | false => exact fil_none
  | true =>
    simp only [if_true]
    by_cases h0 : (headL d.li).length = 0
    · rw [if_pos h0]; exact fil_fit hz
    · rw [if_neg h0]; exact fil_fit (fil_roll hz (by omega))
theorem write_ok {d e : Fil} {x : List UInt8} (h : writeX d x = some e) : filOk d = true ∧ lineOk x = true ∧ filOk e = true ∧ e = writeF d x := by
  unfold writeX at h
  split at h
  · rename_i hz
    simp only [Bool.and_eq_true] at hz
    cases h
    exact ⟨hz.1.1, hz.1.2, hz.2, rfl⟩
  · cases h
theorem lines_ok {l : TxtL} : ∀ {d e : Fil}, filOk d = true → linesG d l = some e → filOk e = true := by
  induction l with
  | nil => intro d e h h1; cases h1; exact h
  | cons x r ih =>
    intro d e h h1
    unfold linesG at h1
    cases hw : writeX d x with
    | none => rw [hw] at h1; cases h1
    | some f => rw [hw] at h1; exact ih (write_ok hw).2.2.1 h1
theorem filOr_fit {o : Option Fil} (h : ∀ e, o = some e → filOk e = true) : FilFit (filOr o) := by
  cases o with
  | none => exact fil_none
  | some e => exact fil_fit (h e rfl)
theorem writeX_fit {d : Fil} {x : List UInt8} : FilFit (filOr (writeX d x)) := filOr_fit fun _ h => (write_ok h).2.2.1
theorem linesX_ok {d e : Fil} {l : TxtL} (h : linesX d l = some e) : filOk d = true ∧ linesOk l = true ∧ linesG d l = some e ∧ filOk e = true := by
  unfold linesX at h
  split at h
  · rename_i hz
    simp only [Bool.and_eq_true] at hz
    exact ⟨hz.1, hz.2, h, lines_ok hz.1 h⟩
  · cases h
theorem linesX_fit {d : Fil} {l : TxtL} : FilFit (filOr (linesX d l)) := filOr_fit fun _ h => (linesX_ok h).2.2.2
theorem linesG_snoc {l : TxtL} {x : List UInt8} : ∀ {d : Fil}, linesG d (l ++ [x]) = (linesG d l).bind fun e => writeX e x := by
  induction l with
  | nil => intro d; show (writeX d x).bind (fun e => some e) = writeX d x; cases writeX d x <;> rfl
  | cons y r ih =>
    intro d
    show (writeX d y).bind (fun e => linesG e (r ++ [x])) = ((writeX d y).bind fun e => linesG e r).bind fun e => writeX e x
    cases writeX d y with
    | none => rfl
    | some f => exact ih
theorem linesG_app {l m : TxtL} : ∀ {d : Fil}, linesG d (l ++ m) = (linesG d l).bind fun e => linesG e m := by
  induction l with
  | nil => intro d; rfl
  | cons y r ih =>
    intro d
    show (writeX d y).bind (fun e => linesG e (r ++ m)) = ((writeX d y).bind fun e => linesG e r).bind fun e => linesG e m
    cases writeX d y with
    | none => rfl
    | some f => exact ih

def FilPost (w : World) (X : Fil) (e : Ending) (w2 : World) : Prop := ∃ (u0 : Value) (rs0 : List Row), e = .returned u0 ∧ FilR rs0 u0 X ∧ Rows w2 w.heap.size rs0 ∧ Below w.heap.size w w2
def FilPostO (w : World) (X : Fil) (ok : Bool) (e : Ending) (w2 : World) : Prop := ∃ (u0 : Value) (rs0 : List Row), e = .returned (.tuple #[u0, .bool ok]) ∧ FilR rs0 u0 X ∧ Rows w2 w.heap.size rs0 ∧ Below w.heap.size w w2
def StrssPost (w : World) (X : StrssD) (e : Ending) (w2 : World) : Prop := ∃ (u0 : Value) (rs0 : List Row), e = .returned u0 ∧ StrssR rs0 u0 X ∧ Rows w2 w.heap.size rs0 ∧ Below w.heap.size w w2

/-- a slice of slices without its last ones -/
theorem StrssIn.cut {w : World} {B n c k : Nat} {A : Option Addr} {L : StrssD} (h : StrssIn w B (.slice A n c) L) (hk : k ≤ n) : StrssIn w B (.slice A k c) (L.take k) := by
  have hn := NestIn.count h.1
  obtain ⟨us, h1, h2⟩ := h.1
  have hl : (L.take k).length = k := by rw [List.length_take]; omega
  refine ⟨⟨us.take k, ?_, fun i u l hu hl2 => ?_⟩, by have := h.2; omega⟩
  · rw [hl]; rw [hn] at h1; exact h1.cut hk
  · have hik : i < k := by have := (List.getElem?_eq_some_iff.1 hu).1; rw [List.length_take] at this; omega
    rw [List.getElem?_take_of_lt hik] at hu hl2
    exact h2 i u l hu hl2
end Go.Proofs.Ytoiagfdhanhnkaa
