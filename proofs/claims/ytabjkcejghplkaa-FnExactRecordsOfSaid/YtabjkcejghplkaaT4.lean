/-
  WALKS: validHandlers, validLoggers, ValidTree of the program.
-/
import Derived.Test.YtabjkcejghplkaaT3
namespace Go.Proofs.Ytabjkcejghplkaa
open Go.RowKit Nm
set_option linter.unusedSimpArgs false
set_option linter.unusedVariables false

def hsOf (l : List HndV) : List Hnd := l.map (·.h)
theorem hnames_eq (l : List HndV) : (hsOf l).map (·.nm) = hnames l := by unfold hsOf hnames; rw [List.map_map]; rfl
theorem hnds_bad (l : List HndV) (k : Nat) (x : HndV) (hx : l[k]? = some x) (h : hndOk x.h = false) : hndsOk (hsOf l) = false := by
  cases hn : hndsOk (hsOf l) with
  | false => rfl
  | true =>
    simp only [hndsOk, Bool.and_eq_true, List.all_eq_true] at hn
    have := hn.1 x.h (List.mem_map.2 ⟨x, List.mem_of_getElem? hx, rfl⟩)
    rw [h] at this; cases this
theorem hnds_dup (l : List HndV) (k : Nat) (x : List UInt8) (hx : (hnames l)[k]? = some x) (h : x ∈ (hnames l).take k) : hndsOk (hsOf l) = false := by
  unfold hndsOk
  rw [hnames_eq, decide_eq_false (not_nodup _ k x hx h)]
  simp
theorem hnds_many (l : List HndV) (h : 6 < l.length) : hndsOk (hsOf l) = false := by
  unfold hndsOk
  rw [decide_eq_false (show ¬ (hsOf l).length ≤ 6 by unfold hsOf; simp; omega)]
  simp
theorem hnds_good (l : List HndV) (h : l.length ≤ 6) (h1 : ∀ x ∈ l, hndOk x.h = true) (h2 : (hnames l).Nodup) : hndsOk (hsOf l) = true := by
  unfold hndsOk
  rw [hnames_eq, decide_eq_true h2, decide_eq_true (show (hsOf l).length ≤ 6 by unfold hsOf; simpa using h)]
  simp only [Bool.and_true, List.all_eq_true]
  intro y hy
  obtain ⟨x, hx, rfl⟩ := List.mem_map.1 hy
  exact h1 x hx
theorem last_eq (t : ByteArray) : (t.toList == [108, 97, 115, 116]) = decide (t.data.toList = lastL) := by
  rw [ByteArray.toList_eq]
  show (t.data.toList == lastL) = _
  rw [Bool.eq_iff_iff, beq_iff_eq, decide_eq_true_eq]
theorem mem_take_succ {α : Type} (l : List α) (k : Nat) (x y : α) (h : l[k]? = some x) (hy : y ∈ l.take (k + 1)) : y = x ∨ y ∈ l.take k := by
  rw [List.take_add_one, h] at hy
  rcases List.mem_append.1 hy with hy | hy
  · exact .inr hy
  · exact .inl (by simpa using hy)

def lsOf (l : List LgrV) : List Lgr := l.map (·.l)
theorem lnames_eq (l : List LgrV) : (lsOf l).map (·.nm) = lnames l := by unfold lsOf lnames; rw [List.map_map]; rfl
theorem hasL_eq (hs : List HndV) (x : List UInt8) : hasL (hsOf hs) x = decide (x ∈ hnames hs) := by
  rw [Bool.eq_iff_iff]
  simp only [hasL, hsOf, hnames, List.any_map, List.any_eq_true, decide_eq_true_eq, Function.comp, List.mem_map]
theorem lgr_eq (hs : List HndV) (l : Lgr) : lgrOk (hsOf hs) l = (nameOk l.nm && (lvOk l.lv && (filtersOk l.fs && (l.hs.all (fun x => decide (x ∈ hnames hs)) && decide l.hs.Nodup)))) := by
  unfold lgrOk
  rw [show hasL (hsOf hs) = fun x => decide (x ∈ hnames hs) from funext (hasL_eq hs)]
theorem lgrs_bad (hs : List HndV) (l : List LgrV) (k : Nat) (x : LgrV) (hx : l[k]? = some x) (h : lgrOk (hsOf hs) x.l = false) : lgrsOk (hsOf hs) (lsOf l) = false := by
  cases hn : lgrsOk (hsOf hs) (lsOf l) with
  | false => rfl
  | true =>
    simp only [lgrsOk, Bool.and_eq_true, List.all_eq_true] at hn
    have := hn.1 x.l (List.mem_map.2 ⟨x, List.mem_of_getElem? hx, rfl⟩)
    rw [h] at this; cases this
theorem lgrs_dup (hs : List HndV) (l : List LgrV) (k : Nat) (x : List UInt8) (hx : (lnames l)[k]? = some x) (h : x ∈ (lnames l).take k) : lgrsOk (hsOf hs) (lsOf l) = false := by
  unfold lgrsOk
  rw [lnames_eq, decide_eq_false (not_nodup _ k x hx h)]
  simp
theorem lgrs_len (hs : List HndV) (l : List LgrV) (h : l.length = 0 ∨ 8 < l.length) : lgrsOk (hsOf hs) (lsOf l) = false := by
  unfold lgrsOk
  rcases h with h | h
  · rw [decide_eq_false (show ¬ 1 ≤ (lsOf l).length by unfold lsOf; rw [List.length_map]; omega)]; simp
  · rw [decide_eq_false (show ¬ (lsOf l).length ≤ 8 by unfold lsOf; rw [List.length_map]; omega)]; simp
theorem lgrs_root (hs : List HndV) (l : List LgrV) (x : List UInt8) (h : (lnames l)[0]? = some x) (hx : ¬ x = []) : lgrsOk (hsOf hs) (lsOf l) = false := by
  unfold lgrsOk
  rw [lnames_eq, h, decide_eq_false (show ¬ (some x = some []) by simpa using hx)]; simp
theorem lgrs_good (hs : List HndV) (l : List LgrV) (h0 : 1 ≤ l.length) (h8 : l.length ≤ 8) (hr : (lnames l)[0]? = some []) (h1 : ∀ x ∈ l, lgrOk (hsOf hs) x.l = true) (h2 : (lnames l).Nodup) : lgrsOk (hsOf hs) (lsOf l) = true := by
  unfold lgrsOk
  rw [lnames_eq, hr, decide_eq_true h2, decide_eq_true (show 1 ≤ (lsOf l).length by unfold lsOf; simpa using h0), decide_eq_true (show (lsOf l).length ≤ 8 by unfold lsOf; simpa using h8)]
  simp only [decide_true, Bool.and_true, List.all_eq_true]
  intro y hy
  obtain ⟨x, hx, rfl⟩ := List.mem_map.1 hy
  exact h1 x hx

end Go.Proofs.Ytabjkcejghplkaa
