/-
  LOGGERS AND HANDLERS DROPPED, ATTACHED, DETACHED: plain.
-/
import Derived.Test.YtioegkcekbkblaaGreatZxPT1
namespace Go.Proofs.YtioegkcekbkblaaGreat
open Go.RowKit Nm
set_option linter.unusedSimpArgs false
set_option linter.unusedVariables false

theorem sub_fit {L L' : List Lgr} {H H' : List Hnd} (h : dataFit L H) (hl : L'.Sublist L) (hh : H'.Sublist H) : dataFit L' H' :=
  ⟨⟨Nat.le_trans hl.length_le h.1.1, fun a ha => h.1.2 a (hl.subset ha)⟩, Nat.le_trans hh.length_le h.2.1, fun a ha => h.2.2 a (hh.subset ha)⟩
/-- fewer loggers, the root still the first -/
theorem sub_ok {L L' : List Lgr} {H : List Hnd} {q : Int} (h : treeOk L H q = true) (hs : L'.Sublist L) (h0 : L'[0]? = L[0]?) : treeOk L' H q = true := by
  unfold treeOk lgrsOk at h ⊢
  simp only [Bool.and_eq_true, decide_eq_true_eq, List.all_eq_true] at h ⊢
  obtain ⟨a, b, c, d, e, f, g⟩ := h
  refine ⟨a, b, fun l hl => c l (hs.subset hl), (hs.map _).nodup d, ?_, Nat.le_trans hs.length_le f, ?_⟩
  · rw [List.getElem?_map] at g
    cases hx : L[0]? with
    | none => rw [hx] at g; cases g
    | some x => rw [hx] at h0; have := (List.getElem?_eq_some_iff.1 h0).1; omega
  · rw [List.getElem?_map, h0, ← List.getElem?_map]; exact g
def keepL (l : Lgr) : Bool := !(!decide (l.nm = []) && (decide (l.lv = 0) && (decide (l.hs.length = 0) && (decide (l.fs.length = 0) && (!l.stop && !l.off)))))
def dropPX (L : List Lgr) (H : List Hnd) (q : Int) : Option TreeD := changedO L H q (some (L.filter keepL, H, q))
theorem dropP_res_fit (L : List Lgr) (H : List Hnd) (q : Int) : dataFit (resL (dropPX L H q)) (resH (dropPX L H q)) := changed_fit _ _ _ _
theorem dropP_ok {L : List Lgr} {H : List Hnd} {q : Int} (h : treeOk L H q = true) : treeOk (L.filter keepL) H q = true := by
  obtain ⟨_, _, _, h8, h1, h0⟩ := tree_names h
  refine sub_ok h List.filter_sublist ?_
  cases L with
  | nil => rfl
  | cons a L =>
    have ha : a.nm = [] := by
      unfold treeOk lgrsOk at h
      simp only [Bool.and_eq_true, decide_eq_true_eq] at h
      have := h.2.2.2.2.2.2
      simpa using this
    have hk : keepL a = true := by unfold keepL; rw [ha]; simp
    rw [List.filter_cons, if_pos hk]; rfl
theorem dropP_some {L : List Lgr} {H : List Hnd} {q : Int} (h : treeOk L H q = true) : dropPX L H q = some (L.filter keepL, H, q) := by
  unfold dropPX changedO
  rw [h]
  simp only [if_true, Option.bind_some]
  unfold ifOk
  rw [dropP_ok h]; rfl
end Go.Proofs.YtioegkcekbkblaaGreat
