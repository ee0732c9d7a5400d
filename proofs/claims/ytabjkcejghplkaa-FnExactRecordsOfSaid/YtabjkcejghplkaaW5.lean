/-
  WALKS: LastIndexByte, above, the common name by both; joinWith.
-/
import Derived.Test.YtabjkcejghplkaaW4
import Derived.Deep.QuietTactic
import Derived.BigQuiet
namespace Go.Proofs.Ytabjkcejghplkaa
open Go.RowKit Nm
set_option linter.unusedSimpArgs false
set_option linter.unusedVariables false

theorem below_dr {B : Nat} {a w : World} (h : Below B a w) (n : Nat) : Below B a (w.drewN n) := ⟨h.os, h.tape, h.output, h.size, h.block⟩

def LastPost (l : List UInt8) (c : UInt8) (w : World) (e : Ending) (w' : World) : Prop :=
  ∃ r : Int, e = .returned (.int .i64 r) ∧ w' = w ∧ ((∃ i : Nat, r = i ∧ l[i]? = some c ∧ ∀ x ∈ l.drop (i + 1), x ≠ c) ∨ (r = -1 ∧ ∀ x ∈ l, x ≠ c))

theorem total_words (ws : List (List UInt8)) (h : ∀ w ∈ ws, wordOk w = true) : total ws ≤ 4 * ws.length := by
  induction ws with
  | nil => simp [total]
  | cons a r ih =>
    have h1 := ih (fun w hw => h w (by simp [hw]))
    have h2 := h a (by simp)
    simp only [wordOk, Bool.and_eq_true, decide_eq_true_eq] at h2
    simp only [total, List.map_cons, List.sum_cons, List.length_cons] at h1 ⊢
    omega
theorem name_size (l : List UInt8) (h : nameOk l = true) : l.length ≤ 20 := by
  obtain ⟨h1, h2⟩ := (nameOk_iff l).1 h
  have h3 := joinS_len [46] (partsL l)
  rw [joinS_dot, join_parts] at h3
  have h4 := total_words _ h1
  simp only [List.length_singleton, Nat.one_mul] at h3
  omega
theorem txt_mk (l : List UInt8) : ∃ x : ByteArray, txt l = .string x ∧ x.data.toList = l := ⟨⟨l.toArray⟩, rfl, by simp⟩
theorem join_small (l : List UInt8) (k : Nat) : (joinL ((partsL l).take k)).length ≤ 2 * l.length + 2 := by
  have h1 := joinS_len [46] ((partsL l).take k)
  rw [joinS_dot] at h1
  have h2 := total_take (partsL l) k
  have h3 := total_parts l
  simp only [List.length_singleton, Nat.one_mul, List.length_take] at h1
  omega
def commonOf (a b : List UInt8) : List UInt8 := if nameOk a && nameOk b then commonL a b else []

end Go.Proofs.Ytabjkcejghplkaa
