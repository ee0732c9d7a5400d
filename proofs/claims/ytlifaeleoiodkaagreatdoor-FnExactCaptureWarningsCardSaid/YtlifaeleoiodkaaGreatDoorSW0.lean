/-
  WARNINGS SHOWN, plain.
-/
import Derived.Test.YtlifaeleoiodkaaGreatDoorRU1
namespace Go.Proofs.YtlifaeleoiodkaaGreatDoor
open Go.RowKit Go.Proofs.YtlifaeleoiodkaaGreatDoor.Nm
set_option linter.unusedSimpArgs false
set_option linter.unusedVariables false

/-- what an action compares -/
structure Sgt where
  ac : Int
  tx : List UInt8
  md : List UInt8
  ln : Int
deriving DecidableEq
def sgt (a : Int) (w : Wrn) : Sgt := ⟨a, w.tx, if a = 2 then [] else w.md, if a = 2 ∨ a = 3 then 0 else w.ln⟩
def ixAc (l : List Rul) : Option Nat → Int
  | some k => ((l[k]?).map (·.ac)).getD 4
  | none => 4
def actX (l : List Rul) (w : Wrn) : Int := ixAc l (firstIx (fallsB w) l)
def sawL (old : List Wrn) (w : Wrn) (a : Int) : Bool := old.any fun x => decide (x.tx = w.tx) && (decide (a = 2) || (decide (x.md = w.md) && (decide (a = 3) || decide (x.ln = w.ln))))
def sgIn (old : List Wrn) (s : Sgt) : Bool := old.any fun x => decide (s = sgt 2 x) || (decide (s = sgt 3 x) || decide (s = sgt 4 x))
def shG (rs : List Rul) : Nat → List Wrn → List Int → List Wrn → List Int × Bool
  | _, [], out, _ => (out, false)
  | i, w :: t, out, old =>
    if actX rs w = 0 then shG rs (i + 1) t out old
    else if actX rs w = 5 then (out ++ [(i : Int)], true)
    else if actX rs w = 1 then shG rs (i + 1) t (out ++ [(i : Int)]) old
    else if sawL old w (actX rs w) then shG rs (i + 1) t out old
    else shG rs (i + 1) t (out ++ [(i : Int)]) (old ++ [w])
def shOk (rs : List Rul) (l : List Wrn) : Bool := rulsOk rs && wrnsOk l
def shX (rs : List Rul) (l : List Wrn) : List Int × Bool := if shOk rs l then shG rs 0 l [] [] else ([], false)

theorem drop_one {α : Type} {l : List α} {i : Nat} {x : α} (h : l[i]? = some x) : l.drop i = x :: l.drop (i + 1) := by
  obtain ⟨hl, he⟩ := List.getElem?_eq_some_iff.1 h
  rw [List.drop_eq_getElem_cons hl, he]
theorem sgt_eq {a : Int} {w x : Wrn} (ha : a = 2 ∨ a = 3 ∨ a = 4) : (decide (sgt a w = sgt 2 x) || (decide (sgt a w = sgt 3 x) || decide (sgt a w = sgt 4 x))) = (decide (x.tx = w.tx) && (decide (a = 2) || (decide (x.md = w.md) && (decide (a = 3) || decide (x.ln = w.ln))))) := by
  rcases ha with rfl | rfl | rfl <;> simp [sgt, Bool.eq_iff_iff, eq_comm]
theorem sgIn_saw {old : List Wrn} {w : Wrn} {a : Int} (ha : a = 2 ∨ a = 3 ∨ a = 4) : sgIn old (sgt a w) = sawL old w a := by
  unfold sgIn sawL
  induction old with
  | nil => rfl
  | cons x t ih => rw [List.any_cons, List.any_cons, ih, sgt_eq ha]
theorem sgIn_snoc {old : List Wrn} {w : Wrn} {s : Sgt} : sgIn (old ++ [w]) s = (if s = sgt 4 w then true else if s = sgt 3 w then true else if s = sgt 2 w then true else sgIn old s) := by
  unfold sgIn
  rw [List.any_append]
  simp only [List.any_cons, List.any_nil, Bool.or_false]
  by_cases h4 : s = sgt 4 w
  · simp [h4]
  · by_cases h3 : s = sgt 3 w
    · simp [h3]
    · by_cases h2 : s = sgt 2 w
      · simp [h2]
      · simp [h4, h3, h2]
theorem firstIx_some {α : Type} {p : α → Bool} : ∀ {l : List α} {k : Nat}, firstIx p l = some k → ∃ x, l[k]? = some x ∧ p x = true := by
  intro l
  induction l with
  | nil => intro k h; cases h
  | cons a t ih =>
    intro k h
    unfold firstIx at h
    split at h
    · rename_i hp
      cases h
      exact ⟨a, rfl, hp⟩
    · cases hq : firstIx p t with
      | none => rw [hq] at h; cases h
      | some j =>
        rw [hq] at h
        have hk : j + 1 = k := Option.some.inj h
        subst hk
        obtain ⟨x, hx, hp⟩ := ih hq
        exact ⟨x, by simpa using hx, hp⟩
theorem ruls_all {rs : List Rul} (h : rulsOk rs = true) : ∀ x ∈ rs, 0 ≤ x.ac ∧ x.ac ≤ 5 := by
  intro x hx
  unfold rulsOk at h
  simp only [Bool.and_eq_true, List.all_eq_true] at h
  have := h.1 x hx
  unfold rulOk at this
  simp only [Bool.and_eq_true, decide_eq_true_eq] at this
  exact this.1
/-- the rule of a warning: none, or one there is -/
theorem act_cases (rs : List Rul) (w : Wrn) : (ruleIx rs w = -1 ∧ actX rs w = 4) ∨ ∃ (k : Nat) (x : Rul), ruleIx rs w = (k : Int) ∧ rs[k]? = some x ∧ k < rs.length ∧ actX rs w = x.ac := by
  unfold ruleIx actX
  cases h : firstIx (fallsB w) rs with
  | none => exact .inl ⟨rfl, rfl⟩
  | some k =>
    obtain ⟨x, hx, _⟩ := firstIx_some h
    refine .inr ⟨k, x, rfl, hx, (List.getElem?_eq_some_iff.1 hx).1, ?_⟩
    show ((rs[k]?).map (·.ac)).getD 4 = x.ac
    rw [hx]; rfl
theorem act_range {rs : List Rul} (h : rulsOk rs = true) (w : Wrn) : 0 ≤ actX rs w ∧ actX rs w ≤ 5 := by
  rcases act_cases rs w with ⟨_, h1⟩ | ⟨k, x, _, hx, _, h1⟩
  · omega
  · rw [h1]; exact ruls_all h x (List.mem_of_getElem? hx)
theorem act_kinds {rs : List Rul} (h : rulsOk rs = true) (w : Wrn) : actX rs w = 0 ∨ actX rs w = 5 ∨ actX rs w = 1 ∨ (actX rs w = 2 ∨ actX rs w = 3 ∨ actX rs w = 4) := by
  have := act_range h w; omega
section
variable {rs : List Rul} {l old : List Wrn} {k : Nat} {out : List Int} {w : Wrn}
theorem shG_end (h : l.length ≤ k) : shG rs k (l.drop k) out old = (out, false) := by rw [List.drop_eq_nil_of_le h]; rfl
theorem shG_0 (hx : l[k]? = some w) (h : actX rs w = 0) : shG rs k (l.drop k) out old = shG rs (k + 1) (l.drop (k + 1)) out old := by rw [drop_one hx, shG, if_pos h]
theorem shG_5 (hx : l[k]? = some w) (h : actX rs w = 5) : shG rs k (l.drop k) out old = (out ++ [(k : Int)], true) := by rw [drop_one hx, shG, if_neg (by omega), if_pos h]
theorem shG_1 (hx : l[k]? = some w) (h : actX rs w = 1) : shG rs k (l.drop k) out old = shG rs (k + 1) (l.drop (k + 1)) (out ++ [(k : Int)]) old := by rw [drop_one hx, shG, if_neg (by omega), if_neg (by omega), if_pos h]
theorem shG_saw (hx : l[k]? = some w) (h : actX rs w = 2 ∨ actX rs w = 3 ∨ actX rs w = 4) (hs : sawL old w (actX rs w) = true) : shG rs k (l.drop k) out old = shG rs (k + 1) (l.drop (k + 1)) out old := by
  rw [drop_one hx, shG, if_neg (by omega), if_neg (by omega), if_neg (by omega), if_pos hs]
theorem shG_new (hx : l[k]? = some w) (h : actX rs w = 2 ∨ actX rs w = 3 ∨ actX rs w = 4) (hs : sawL old w (actX rs w) = false) : shG rs k (l.drop k) out old = shG rs (k + 1) (l.drop (k + 1)) (out ++ [(k : Int)]) (old ++ [w]) := by
  rw [drop_one hx, shG, if_neg (by omega), if_neg (by omega), if_neg (by omega), if_neg (by rw [hs]; simp)]
end
theorem shG_len (rs : List Rul) : ∀ (l : List Wrn) (i : Nat) (out : List Int) (old : List Wrn), (shG rs i l out old).1.length ≤ out.length + l.length := by
  intro l
  induction l with
  | nil => intro i out old; simp [shG]
  | cons w t ih =>
    intro i out old
    have h1 := ih (i + 1) out old
    have h2 := ih (i + 1) (out ++ [(i : Int)]) old
    have h3 := ih (i + 1) (out ++ [(i : Int)]) (old ++ [w])
    simp only [List.length_append, List.length_cons, List.length_nil] at h2 h3
    unfold shG
    simp only [List.length_cons]
    split
    · omega
    · split
      · simp
      · split
        · omega
        · split <;> omega
theorem wrns_len {l : List Wrn} (h : wrnsOk l = true) : l.length ≤ 12 := by unfold wrnsOk at h; simp only [Bool.and_eq_true, decide_eq_true_eq] at h; exact h.2
theorem shOk_parts {rs : List Rul} {l : List Wrn} (h : shOk rs l = true) : rulsOk rs = true ∧ wrnsOk l = true := by unfold shOk at h; simpa using h
theorem shX_len (rs : List Rul) (l : List Wrn) : (shX rs l).1.length ≤ 12 := by
  unfold shX
  split
  · rename_i h
    have h1 := shG_len rs l 0 [] []
    have h2 := wrns_len (shOk_parts h).2
    simp at h1; omega
  · simp
end Go.Proofs.YtlifaeleoiodkaaGreatDoor
