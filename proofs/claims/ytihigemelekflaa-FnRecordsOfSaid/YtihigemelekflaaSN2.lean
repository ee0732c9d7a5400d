/-
  RECORDS SENT: the program's enter: what the record's own logger makes of it. By gen_sn2.py.
-/
import Derived.Test.YtihigemelekflaaSN1
import Derived.Test.YtihigemelekflaaUM
import Derived.Test.YtihigemelekflaaStB
namespace Go.Proofs.Ytihigemelekflaa
open Go.RowKit Go.Proofs.Ytihigemelekflaa.Nm
set_option linter.unusedSimpArgs false
set_option linter.unusedVariables false

theorem ent_off {L : List Lgr} {q : Int} {nm tx : List UInt8} {lv : Int} (h : offT L nm = true) : entX L q nm tx lv = (1, lv) := by unfold entX; rw [if_pos h]
theorem ent_quiet {L : List Lgr} {q : Int} {nm tx : List UInt8} {lv : Int} (h : offT L nm = false) (hq : lv ≤ q) : entX L q nm tx lv = (2, lv) := by unfold entX; rw [if_neg (by rw [h]; simp), if_pos hq]
theorem ent_level {L : List Lgr} {q : Int} {nm tx : List UInt8} {lv : Int} (h : offT L nm = false) (hq : ¬ lv ≤ q) (hl : lv < levelN (nsOf L) (lvAt L) nm) : entX L q nm tx lv = (3, lv) := by unfold entX; rw [if_neg (by rw [h]; simp), if_neg hq, if_pos hl]
theorem ent_filter {L : List Lgr} {q : Int} {nm tx : List UInt8} {lv : Int} (h : offT L nm = false) (hq : ¬ lv ≤ q) (hl : ¬ lv < levelN (nsOf L) (lvAt L) nm) (hf : filtL nm tx (ownF L nm) lv = none) : entX L q nm tx lv = (4, lv) := by unfold entX; rw [if_neg (by rw [h]; simp), if_neg hq, if_neg hl, hf]
theorem ent_sent {L : List Lgr} {q : Int} {nm tx : List UInt8} {lv v : Int} (h : offT L nm = false) (hq : ¬ lv ≤ q) (hl : ¬ lv < levelN (nsOf L) (lvAt L) nm) (hf : filtL nm tx (ownF L nm) lv = some v) : entX L q nm tx lv = (0, v) := by unfold entX; rw [if_neg (by rw [h]; simp), if_neg hq, if_neg hl, hf]
theorem own_ok {L : List Lgr} {H : List Hnd} {t : Int} (ht : treeOk L H t = true) (x : List UInt8) : filtersOk (ownF L x) = true := by
  unfold ownF
  split
  · unfold fsAt
    by_cases hk : nearN (nsOf L) x < L.length
    · have e2 : (L.map (·.fs)).getD (nearN (nsOf L) x) [] = L[nearN (nsOf L) x].fs := by simp [List.getD, hk]
      rw [e2]
      unfold treeOk lgrsOk at ht
      simp only [Bool.and_eq_true, List.all_eq_true] at ht
      have := ht.2.2.1 _ (List.getElem_mem hk)
      unfold lgrOk at this
      simp only [Bool.and_eq_true] at this
      exact this.2.2.1
    · simp [List.getD, hk, filtersOk]
  · rfl
theorem Fs.none_ (w : World) (B : Nat) : Fs w B 0 (.slice none 0 0) [] := ⟨⟨by simp [fsCells], none, 0, rfl, Nat.le_refl _, Nat.zero_le _, fun h => by omega⟩, fun f hf => by cases hf⟩
end Go.Proofs.Ytihigemelekflaa
