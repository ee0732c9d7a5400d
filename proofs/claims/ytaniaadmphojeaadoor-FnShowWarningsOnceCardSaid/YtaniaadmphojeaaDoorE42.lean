/-
  ONE RULE FOR ALL WARNINGS, plain; literal rules. By gen_dvw.py.
-/
import Derived.Test.YtaniaadmphojeaaDoorSW4
import Derived.Test.YtaniaadmphojeaaDoorE41
namespace Go.Proofs.YtaniaadmphojeaaDoor
open Go.RowKit Go.Proofs.YtaniaadmphojeaaDoor.Nm
set_option linter.unusedSimpArgs false
set_option linter.unusedVariables false

/-- a rule for all -/
def allR (a : Int) : Rul := ⟨a, [], [], 0⟩
theorem falls_all (a : Int) (w : Wrn) : fallsB w (allR a) = true := by simp [fallsB, allR, belowL]
theorem act_all (a : Int) (w : Wrn) : actX [allR a] w = a := by
  unfold actX firstIx
  rw [if_pos (falls_all a w)]; rfl
theorem ruls_one {a : Int} (h : a = 0 ∨ a = 1 ∨ a = 2 ∨ a = 3 ∨ a = 4) : rulsOk [allR a] = true := by
  rcases h with rfl | rfl | rfl | rfl | rfl <;> rfl
theorem shG_ign : ∀ (l : List Wrn) (i : Nat) (out : List Int) (old : List Wrn), shG [allR 0] i l out old = (out, false) := by
  intro l
  induction l with
  | nil => intro i out old; rfl
  | cons w t ih => intro i out old; rw [shG, if_pos (act_all 0 w), ih]
theorem shG_alw : ∀ (l : List Wrn) (i : Nat) (out : List Int) (old : List Wrn), (shG [allR 1] i l out old).2 = false ∧ (shG [allR 1] i l out old).1.length = out.length + l.length := by
  intro l
  induction l with
  | nil => intro i out old; exact ⟨rfl, rfl⟩
  | cons w t ih =>
    intro i out old
    rw [shG, act_all, if_neg (by omega), if_neg (by omega), if_pos rfl]
    have h := ih (i + 1) (out ++ [(i : Int)]) old
    refine ⟨h.1, h.2.trans ?_⟩
    simp; omega
theorem shX_ign {l : List Wrn} (h : wrnsOk l = true) : shX [allR 0] l = ([], false) := by
  unfold shX shOk
  rw [ruls_one (.inl rfl), h]
  exact shG_ign l 0 [] []
theorem shX_alw {l : List Wrn} (h : wrnsOk l = true) : (shX [allR 1] l).2 = false ∧ (shX [allR 1] l).1.length = l.length := by
  unfold shX shOk
  rw [ruls_one (.inr (.inl rfl)), h]
  have h1 := shG_alw l 0 [] []
  simpa using h1
theorem rulLit_in (W : World) (a : Int) : RulesIn (W.alloc (.cells #[.int .i64 a, .string ⟨#[]⟩, .string ⟨#[]⟩, .int .i64 0] 44)) (W.alloc (.cells #[.int .i64 a, .string ⟨#[]⟩, .string ⟨#[]⟩, .int .i64 0] 44)).heap.size (.slice (some ⟨W.heap.size, 0, none⟩) 1 1) [allR a] := by
  have h := World.ownsRow_lit (e := 44) (size := 4) (base := W.heap.size) W #[.int .i64 a, .string ⟨#[]⟩, .string ⟨#[]⟩, .int .i64 0] 1 (Nat.le_refl _) (by unfold maxLen; omega) rfl
  have h2 : (W.alloc (.cells #[.int .i64 a, .string ⟨#[]⟩, .string ⟨#[]⟩, .int .i64 0] 44)).ownsRow W.heap.size 44 4 (.slice (some ⟨W.heap.size, 0, none⟩) 1 1) 1 (([allR a] : List Rul).flatMap rucells) := h
  refine ⟨⟨Sl.of_own h2, fun x hx => ?_⟩, by show 1 ≤ maxTxt; unfold maxTxt; omega⟩
  rw [List.mem_singleton.1 hx]
  exact ⟨Nat.zero_le _, Nat.zero_le _⟩
theorem IntsR.count {rs : List Row} {A : Option Addr} {n c lo : Nat} {l : List Int} {w : World} (h : IntsR rs (.slice A n c) l) (hr : Rows w lo rs) : n = l.length := by
  subst h
  obtain ⟨A', c', e, _⟩ := (Sl.of_own (show w.ownsRow _ _ 1 (.slice A n c) _ _ from hr.head)).form
  injection e with _ h2 _
theorem Wrns.take {w : World} {B n c : Nat} {A : Option Addr} {l : List Wrn} (h : Wrns w B n (.slice A n c) l) {k : Nat} (hk : k ≤ n) : Wrns w B k (.slice A k c) (l.take k) :=
  ⟨by rw [← flat_takeK wncells 3 wncells_len]; exact h.1.cutK hk, fun x hx => h.2 x (List.mem_of_mem_take hx)⟩
theorem wrnsOk_take {l : List Wrn} {k : Nat} (h : wrnsOk l = true) : wrnsOk (l.take k) = true := by
  unfold wrnsOk at h ⊢
  simp only [Bool.and_eq_true, List.all_eq_true, decide_eq_true_eq] at h ⊢
  exact ⟨fun x hx => h.1 x (List.mem_of_mem_take hx), by rw [List.length_take]; omega⟩
end Go.Proofs.YtaniaadmphojeaaDoor
