/-
  TREES changed: MoveBranch, in plain Lean.
-/
import Derived.Test.YteoblmhbjmefoaaC12
namespace Go.Proofs.Yteoblmhbjmefoaa
open Go.RowKit Nm
set_option linter.unusedSimpArgs false
set_option linter.unusedVariables false

def moveL (f t : List UInt8) (l : Lgr) : Lgr := if belowL l.nm f then { l with nm := t ++ l.nm.drop f.length } else l
def moveT (L : List Lgr) (f t : List UInt8) : List Lgr := L.map (moveL f t)
def movedB (L : List Lgr) (f : List UInt8) : Bool := L.any (fun l => belowL l.nm f)
/-- what MoveBranch gives -/
def moveX (L : List Lgr) (H : List Hnd) (q : Int) (f t : List UInt8) : Option TreeD :=
  if f = [] ∨ t = [] ∨ nameOk f = false ∨ nameOk t = false then none else changedO L H q (if movedB L f then some (moveT L f t, H, q) else none)
theorem move_res_fit (L : List Lgr) (H : List Hnd) (q : Int) (f t : List UInt8) : dataFit (resL (moveX L H q f t)) (resH (moveX L H q f t)) := by
  unfold moveX
  split
  · exact ⟨⟨by simp [resL], by simp [resL]⟩, ⟨by simp [resH], by simp [resH]⟩⟩
  · exact changed_fit _ _ _ _
theorem below_len {a b : List UInt8} (h : belowL a b = true) : b.length ≤ a.length := by
  unfold belowL at h
  simp only [Bool.or_eq_true, decide_eq_true_eq] at h
  rcases h with rfl | rfl | h
  · exact Nat.zero_le _
  · exact Nat.le_refl _
  · have := h.length_le; simp at this; omega
theorem move_fit {L : List Lgr} {H : List Hnd} {f t : List UInt8} (hd : dataFit L H) (hn : ∀ l ∈ L, l.nm.length ≤ 20) (ht : t.length ≤ 20) : dataFit (moveT L f t) H := by
  refine ⟨⟨by unfold moveT; rw [List.length_map]; exact hd.1.1, fun a ha => ?_⟩, hd.2⟩
  obtain ⟨l, hl, rfl⟩ := List.mem_map.1 ha
  have h1 := hd.1.2 l hl
  have h2 := hn l hl
  unfold moveL
  split
  · refine ⟨?_, h1.2⟩
    show (t ++ l.nm.drop f.length).length ≤ maxTxt
    rw [List.length_append, List.length_drop]
    unfold maxTxt; omega
  · exact h1
/-- one round: the logger k is moved, or stands -/
theorem move_step {L : List Lgr} {k : Nat} {l : Lgr} (f t : List UInt8) (h : L[k]? = some l) : moveT (L.take (k + 1)) f t ++ L.drop (k + 1) = (moveT (L.take k) f t ++ L.drop k).set k (moveL f t l) := by
  have hk := (List.getElem?_eq_some_iff.1 h).1
  have e1 : moveT (L.take (k + 1)) f t = moveT (L.take k) f t ++ [moveL f t l] := by unfold moveT; rw [List.take_add_one, h, List.map_append]; rfl
  have e2 : L.drop k = l :: L.drop (k + 1) := by rw [List.drop_eq_getElem_cons hk]; congr 1; exact (List.getElem?_eq_some_iff.1 h).2
  have e3 : (moveT (L.take k) f t).length = k := by unfold moveT; rw [List.length_map, List.length_take]; omega
  rw [e1, e2, List.set_append_right _ _ (by omega), e3, Nat.sub_self, List.set_cons_zero, List.append_assoc]; rfl
theorem move_at {L : List Lgr} {k : Nat} (f t : List UInt8) (hk : k < L.length) : (moveT (L.take k) f t ++ L.drop k)[k]? = L[k]? := by
  have e3 : (moveT (L.take k) f t).length = k := by unfold moveT; rw [List.length_map, List.length_take]; omega
  rw [List.getElem?_append_right (by omega), e3, Nat.sub_self, List.getElem?_drop]; rfl
theorem moved_step {L : List Lgr} {k : Nat} {l : Lgr} (f : List UInt8) (h : L[k]? = some l) : movedB (L.take (k + 1)) f = (movedB (L.take k) f || belowL l.nm f) := by
  unfold movedB
  rw [List.take_add_one, h, List.any_append]
  simp
theorem moved_none {L : List Lgr} {f t : List UInt8} (h : movedB L f = false) : moveT L f t = L := by
  unfold movedB at h
  unfold moveT
  rw [List.any_eq_false] at h
  refine (List.map_congr_left fun l hl => ?_).trans (List.map_id L)
  show moveL f t l = id l
  unfold moveL
  rw [if_neg (by simpa using h l hl)]; rfl
/-- the new text of a logger that is moved -/
theorem move_txt (t p f : ByteArray) : txt (t.data.toList ++ (p.data.toList).drop f.data.toList.length) = .string (t ++ p.extract f.size p.size) := by
  have hx : txt ((p.data.toList).drop f.size) = .string (p.extract f.size p.size) := by
    rw [Lib.extract_eq, Lib.size_eq p, ← List.length_drop, List.take_length]; rfl
  unfold txt at hx ⊢
  injection hx with hx
  rw [← hx]
  have e : f.data.toList.length = f.size := (Lib.size_eq f).symm
  rw [e]
  congr 1
end Go.Proofs.Yteoblmhbjmefoaa
