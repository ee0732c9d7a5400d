/-
  RECORDS SENT: what is sent fits; SendRecord of both, as the exact law takes them.
-/
import Derived.Test.YtlifaeleoiodkaaGreatDoorSN8
import Derived.Test.YtlifaeleoiodkaaGreatDoorKSents
namespace Go.Proofs.YtlifaeleoiodkaaGreatDoor
open Go.RowKit Go.Proofs.YtlifaeleoiodkaaGreatDoor.Nm
set_option linter.unusedSimpArgs false
set_option linter.unusedVariables false

theorem nameOk_len {l : List UInt8} (h : nameOk l = true) : l.length ≤ 1048576 := by have := name_size l h; omega
theorem ns_fit {L : List Lgr} {H : List Hnd} {q : Int} (ht : treeOk L H q = true) (i : Nat) : ((nsOf L).getD i []).length ≤ 1048576 := by
  obtain ⟨_, _, hnm, _⟩ := tree_ns ht
  by_cases hi : i < (nsOf L).length
  · rw [show (nsOf L).getD i [] = (nsOf L)[i] by simp [List.getD, hi]]
    exact nameOk_len (hnm _ (List.getElem_mem hi))
  · simp [List.getD, hi]
theorem spotsI_lg {L : List Lgr} {H : List Hnd} {q : Int} (ht : treeOk L H q = true) (pl : List Nat) : ∀ s ∈ spotsI L pl, s.lg.length ≤ 1048576 := by
  induction pl with
  | nil => intro s hs; cases hs
  | cons i r ih =>
    intro s hs
    unfold spotsI at hs
    rcases List.mem_append.1 hs with h | h
    · unfold ownS at h
      obtain ⟨x, hx, rfl⟩ := List.mem_map.1 h
      exact ns_fit ht i
    · split at h
      · cases h
      · exact ih s h
theorem spX_lg {L : List Lgr} {H : List Hnd} {q : Int} (ht : treeOk L H q = true) (x : List UInt8) : ∀ s ∈ spX L x, s.lg.length ≤ 1048576 := by
  intro s hs
  unfold spX at hs
  split at hs
  · rw [List.mem_singleton] at hs; subst hs; simp
  · exact spotsI_lg ht _ s hs
theorem outs_mem {H : List Hnd} {nm tx : List UInt8} {ss : List Spt} {lv : Int} : ∀ o ∈ outs H nm tx ss lv, ∃ s ∈ ss, o.lg = s.lg ∧ o.hd = s.hd := by
  induction ss generalizing lv with
  | nil => intro o ho; cases ho
  | cons s t ih =>
    intro o ho
    simp only [outs, List.mem_cons] at ho
    rcases ho with rfl | ho
    · exact ⟨s, by simp, rfl, rfl⟩
    · obtain ⟨s', h1, h2⟩ := ih o ho
      exact ⟨s', by simp [h1], h2⟩
theorem ocX_fit (L : List Lgr) (H : List Hnd) (q : Int) (r : Rec) : ∀ o ∈ ocX L H q r, o.lg.length ≤ 1048576 ∧ o.hd.length ≤ 1048576 := by
  intro o ho
  unfold ocX at ho
  split at ho
  · rename_i h
    simp only [Bool.and_eq_true] at h
    split at ho
    · obtain ⟨s, hs, e1, e2⟩ := outs_mem o ho
      rw [e1, e2]
      exact ⟨spX_lg h.1 _ s hs, spX_fit h.1 _ s hs⟩
    · rw [List.mem_singleton] at ho; subst ho; simp
  · cases ho
theorem sendX_fit (L : List Lgr) (H : List Hnd) (q : Int) {r : Rec} (h1 : r.nm.length ≤ 1048576) (h2 : r.tx.length ≤ 1048576) : SentsFit (sendX L H q r) := by
  refine ⟨Nat.le_trans (sendX_len L H q r) (by unfold maxTxt; omega), fun x hx => ?_⟩
  unfold sendX sentOf at hx
  obtain ⟨o, ho, rfl⟩ := List.mem_map.1 hx
  obtain ⟨a, b⟩ := ocX_fit L H q r o (List.mem_filter.1 ho).1
  exact ⟨a, b, h1, h2⟩
def SentsPost (w : World) (l : List Snt) (e : Ending) (w' : World) : Prop := ∃ v rs, e = .returned v ∧ SentsR rs v l ∧ Rows w' w.heap.size rs ∧ Below w.heap.size w w'
theorem sents_post {w w' : World} {l : List Snt} {e : Ending} (h : RowPost w 83 6 l.length (l.flatMap sncells) e w') : SentsPost w l e w' := by
  obtain ⟨v, rfl, ho, hb⟩ := h
  exact ⟨v, _, rfl, rfl, Rows.one ho, hb⟩
theorem implSendX_c {w : World} {v : Value} {L : List Lgr} {H : List Hnd} {q : Int} (nm tx : ByteArray) (lv sq : Int) (h : TreeIn w w.heap.size v L H q) (hnm : nm.size ≤ maxTxt) (htx : tx.size ≤ maxTxt) :
    Calls Tryz.prog 61 #[v, .agg #[.string nm, .int .i64 lv, .string tx, .int .i64 sq]] w (SentsPost w (sendX L H q ⟨nm.data.toList, lv, tx.data.toList, sq⟩)) :=
  (implSendRecord_c nm tx lv sq h (Nat.le_refl _) hnm htx).mono fun _ _ h => sents_post h
end Go.Proofs.YtlifaeleoiodkaaGreatDoor
