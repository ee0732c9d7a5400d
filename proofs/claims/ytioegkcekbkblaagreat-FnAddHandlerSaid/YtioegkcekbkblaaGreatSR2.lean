/-
  HELPERS of the drawn laws of what is sent. By gen_sr.py.
-/
import Derived.Test.YtioegkcekbkblaaGreatSR0
import Derived.Test.YtioegkcekbkblaaGreatUM
import Derived.Test.YtioegkcekbkblaaGreatE13
namespace Go.Proofs.YtioegkcekbkblaaGreat
open Go.RowKit Go.Proofs.YtioegkcekbkblaaGreat.Nm
set_option linter.unusedSimpArgs false
set_option linter.unusedVariables false

theorem rec_lit (W : World) (nm tx : ByteArray) (lv sq : Int) : (W.alloc (.cells #[.string nm, .int .i64 lv, .string tx, .int .i64 sq] 28)).ownsRow W.heap.size 28 4 (.slice (some ⟨W.heap.size, 0, none⟩) 1 1) 1 (([⟨nm.data.toList, lv, tx.data.toList, sq⟩] : List Rec).flatMap rcells) := by
  have h := World.ownsRow_lit (e := 28) (size := 4) (base := W.heap.size) W #[.string nm, .int .i64 lv, .string tx, .int .i64 sq] 1 (Nat.le_refl _) (by unfold maxLen; omega) rfl
  simpa [rcells, txt_data] using h
theorem recs_one (r : Rec) : recsOk [r] = recOk r := by unfold recsOk; simp
theorem recLit_c (W : World) (nm tx : ByteArray) (lv sq : Int) (h1 : nm.size ≤ 1048576) (h2 : tx.size ≤ 1048576) :
    Calls Tryz.prog 16 #[.slice (some ⟨W.heap.size, 0, none⟩) 1 1] (W.alloc (.cells #[.string nm, .int .i64 lv, .string tx, .int .i64 sq] 28)) (BoolPost (W.alloc (.cells #[.string nm, .int .i64 lv, .string tx, .int .i64 sq] 28)) (recOk ⟨nm.data.toList, lv, tx.data.toList, sq⟩)) := by
  have h9 := implValidRecords_c (.slice (some ⟨W.heap.size, 0, none⟩) 1 1) 1 (W.alloc (.cells #[.string nm, .int .i64 lv, .string tx, .int .i64 sq] 28)).heap.size [⟨nm.data.toList, lv, tx.data.toList, sq⟩] (W.alloc (.cells #[.string nm, .int .i64 lv, .string tx, .int .i64 sq] 28)) ⟨Sl.of_own (rec_lit W nm tx lv sq), fun x hx => by
    rw [List.mem_singleton] at hx; subst hx
    exact ⟨by show nm.data.toList.length ≤ _; rw [← Lib.size_eq]; exact h1, by show tx.data.toList.length ≤ _; rw [← Lib.size_eq]; exact h2⟩⟩ (Nat.le_refl _)
  rw [recs_one] at h9
  exact h9
theorem drop_atS {α : Type} {l : List α} {i : Nat} {x : α} (h : l[i]? = some x) : l.drop i = x :: l.drop (i + 1) := by
  obtain ⟨hl, he⟩ := List.getElem?_eq_some_iff.1 h
  rw [List.drop_eq_getElem_cons hl, he]
theorem sub_skip {α : Type} {X P : List α} {k a : Nat} {p s : α} (h : (X.drop k).Sublist (P.drop a)) (hx : X[k]? = some p) (hs : P[a]? = some s) (hne : s ≠ p) : (X.drop k).Sublist (P.drop (a + 1)) := by
  rw [drop_atS hx, drop_atS hs] at h
  rw [drop_atS hx]
  cases h with
  | cons _ h => exact h
  | cons_cons _ h => exact absurd rfl hne
theorem sub_hit {α : Type} {X P : List α} {k a : Nat} {p : α} (h : (X.drop k).Sublist (P.drop a)) (hx : X[k]? = some p) (hs : P[a]? = some p) : (X.drop (k + 1)).Sublist (P.drop (a + 1)) := by
  rw [drop_atS hx, drop_atS hs] at h
  exact List.cons_sublist_cons.1 h
theorem sub_end {α : Type} {X P : List α} {k a : Nat} {p : α} (h : (X.drop k).Sublist (P.drop a)) (hx : X[k]? = some p) (ha : P.length ≤ a) : False := by
  rw [drop_atS hx, List.drop_of_length_le ha] at h
  cases h
theorem send_sub {L : List Lgr} {H : List Hnd} {q : Int} {r : Rec} (h : treeOk L H q = true) (hr : recOk r = true) (hne : spotsT L H q r.nm ≠ []) : ((sendX L H q r).map prS).Sublist (spotsT L H q r.nm) := by
  have h9 := send_pairs L H q r
  rcases spX_of h (rec_name hr).1 with ⟨e, _⟩ | ⟨_, e⟩
  · exact absurd e hne
  · rw [e] at h9; exact h9
theorem pr_at {X : List Snt} {k : Nat} {s : Snt} (h : X[k]? = some s) : (X.map prS)[k]? = some ⟨s.lg, s.hd⟩ := by rw [List.getElem?_map, h]; rfl
theorem hnd_at {H : List Hnd} {k : Nat} (hk : k < H.length) : ∃ h ∈ H, h.nm = hnmAt H k ∧ h.lv = hlvAt H k := by
  refine ⟨H[k], List.getElem_mem hk, ?_, ?_⟩
  · unfold hnmAt; simp [List.getD, hk]
  · unfold hlvAt; simp [List.getD, hk]
end Go.Proofs.YtioegkcekbkblaaGreat
