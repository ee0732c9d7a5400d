/-
  A HANDLER NAMED ANEW: the program's change.
-/
import Derived.Test.YtioegkcekbkblaaGreatNH1
namespace Go.Proofs.YtioegkcekbkblaaGreat
open Go.RowKit Nm
set_option linter.unusedSimpArgs false
set_option linter.unusedVariables false

theorem nm_set {α : Type} {X : List α} {k : Nat} {l : α} (h : X[k]? = some l) : X.set k l = X := by
  refine List.ext_getElem? fun i => ?_
  by_cases hi : i = k
  · subst hi; rw [List.getElem?_set_self (List.getElem?_eq_some_iff.1 h).1, h]
  · rw [List.getElem?_set_ne (by omega)]
theorem idx_natN {ns : List Name} {x : Name} (h : ¬ idxL ns x < 0) : ∃ k : Nat, idxL ns x = (k : Int) ∧ k < ns.length ∧ ns[k]? = some x := by
  obtain ⟨k, hk⟩ : ∃ k : Nat, idxL ns x = (k : Int) := ⟨_, (Int.toNat_of_nonneg (by omega)).symm⟩
  exact ⟨k, hk, idx_nat hk⟩
theorem hset_of {hs : List HndV} {H : List Hnd} (h : hsOf hs = H) {k : Nat} {y : HndV} (hy : hs[k]? = some y) (t : Name) : hsOf (hs.set k { y with h := { y.h with nm := t } }) = setNm H k t := by
  subst h
  unfold hsOf setNm
  rw [List.map_set, List.getElem?_map, hy]; rfl
theorem renL_none {s t : Name} {l : Lgr} (h : s ∉ l.hs) : renL s t l = l := by unfold renL; rw [ren_none h]

end Go.Proofs.YtioegkcekbkblaaGreat
