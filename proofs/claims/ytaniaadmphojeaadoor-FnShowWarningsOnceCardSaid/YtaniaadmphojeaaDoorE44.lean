/-
  HOW MANY ARE SHOWN BY ONE RULE FOR ALL, plain; a text among texts. By gen_dso.py.
-/
import Derived.Test.YtaniaadmphojeaaDoorE43
namespace Go.Proofs.YtaniaadmphojeaaDoor
open Go.RowKit Go.Proofs.YtaniaadmphojeaaDoor.Nm
set_option linter.unusedSimpArgs false
set_option linter.unusedVariables false

/-- how many are new -/
def dis {α : Type} [DecidableEq α] : List α → List α → Nat
  | _, [] => 0
  | S, x :: t => if x ∈ S then dis S t else 1 + dis (S ++ [x]) t
theorem dis_len {α : Type} [DecidableEq α] : ∀ (t S : List α), dis S t ≤ t.length := by
  intro t
  induction t with
  | nil => intro S; exact Nat.le_refl _
  | cons x t ih =>
    intro S
    unfold dis
    split
    · have := ih S; simp; omega
    · have := ih (S ++ [x]); simp; omega
theorem dis_le {α β : Type} [DecidableEq α] [DecidableEq β] (g : α → β) : ∀ (t Sa : List α) (Sb : List β), (∀ y, y ∈ Sb ↔ ∃ x ∈ Sa, g x = y) → dis Sb (t.map g) ≤ dis Sa t := by
  intro t
  induction t with
  | nil => intro Sa Sb _; exact Nat.le_refl _
  | cons x t ih =>
    intro Sa Sb h
    rw [List.map_cons, dis, dis]
    by_cases hx : x ∈ Sa
    · rw [if_pos hx, if_pos ((h _).2 ⟨x, hx, rfl⟩)]
      exact ih Sa Sb h
    · rw [if_neg hx]
      by_cases hg : g x ∈ Sb
      · rw [if_pos hg]
        have := ih (Sa ++ [x]) Sb (fun y => by
          rw [h y]
          constructor
          · rintro ⟨z, hz, rfl⟩; exact ⟨z, List.mem_append_left _ hz, rfl⟩
          · rintro ⟨z, hz, rfl⟩
            rcases List.mem_append.1 hz with hz | hz
            · exact ⟨z, hz, rfl⟩
            · rw [List.mem_singleton.1 hz]; exact (h _).1 hg)
        omega
      · rw [if_neg hg]
        have := ih (Sa ++ [x]) (Sb ++ [g x]) (fun y => by
          rw [List.mem_append, h y]
          constructor
          · rintro (⟨z, hz, rfl⟩ | hz)
            · exact ⟨z, List.mem_append_left _ hz, rfl⟩
            · rw [List.mem_singleton.1 hz]; exact ⟨x, List.mem_append_right _ (List.mem_singleton.2 rfl), rfl⟩
          · rintro ⟨z, hz, rfl⟩
            rcases List.mem_append.1 hz with hz | hz
            · exact .inl ⟨z, hz, rfl⟩
            · rw [List.mem_singleton.1 hz]; exact .inr (List.mem_singleton.2 rfl))
        omega
theorem saw_mem {old : List Wrn} {w : Wrn} {a : Int} (ha : a = 2 ∨ a = 3 ∨ a = 4) : sawL old w a = decide (sgt a w ∈ old.map (sgt a)) := by
  unfold sawL
  rw [Bool.eq_iff_iff, decide_eq_true_eq, List.any_eq_true]
  constructor
  · rintro ⟨x, hx, h⟩
    refine List.mem_map.2 ⟨x, hx, ?_⟩
    rcases ha with rfl | rfl | rfl <;> simp_all [sgt]
  · intro h
    obtain ⟨x, hx, e⟩ := List.mem_map.1 h
    refine ⟨x, hx, ?_⟩
    rcases ha with rfl | rfl | rfl <;> simp_all [sgt]
theorem shG_dis {a : Int} (ha : a = 2 ∨ a = 3 ∨ a = 4) : ∀ (l : List Wrn) (i : Nat) (out : List Int) (old : List Wrn), (shG [allR a] i l out old).1.length = out.length + dis (old.map (sgt a)) (l.map (sgt a)) := by
  intro l
  induction l with
  | nil => intro i out old; rfl
  | cons w t ih =>
    intro i out old
    rw [shG, act_all, if_neg (by omega), if_neg (by omega), if_neg (by omega), saw_mem ha, List.map_cons, dis]
    by_cases h : sgt a w ∈ old.map (sgt a)
    · rw [if_pos (by simpa using h), if_pos h]; exact ih _ _ _
    · rw [if_neg (by simpa using h), if_neg h, ih, List.length_append, List.map_append]
      show out.length + 1 + dis (old.map (sgt a) ++ [sgt a w]) _ = _
      omega
/-- how many a rule for all shows -/
def cntA (a : Int) (l : List Wrn) : Nat := (shX [allR a] l).1.length
theorem cnt_dis {a : Int} {l : List Wrn} (ha : a = 2 ∨ a = 3 ∨ a = 4) (h : wrnsOk l = true) : cntA a l = dis [] (l.map (sgt a)) := by
  unfold cntA
  rw [shX_val (ruls_one (by omega)) h, shG_dis ha]
  simp
theorem cnt_one {l : List Wrn} (h : wrnsOk l = true) : cntA 1 l = l.length := (shX_alw h).2
theorem none_iff {α β : Type} (g : α → β) : ∀ y, y ∈ ([] : List β) ↔ ∃ x ∈ ([] : List α), g x = y := by intro y; simp
theorem cnt_up {l : List Wrn} (h : wrnsOk l = true) : cntA 2 l = dis [] (l.map (·.tx)) ∧ cntA 2 l ≤ cntA 3 l ∧ cntA 3 l ≤ cntA 4 l ∧ cntA 4 l ≤ cntA 1 l := by
  rw [cnt_dis (.inl rfl) h, cnt_dis (.inr (.inl rfl)) h, cnt_dis (.inr (.inr rfl)) h, cnt_one h]
  refine ⟨Nat.le_antisymm ?_ ?_, ?_, ?_, ?_⟩
  · have h1 := dis_le (fun t : List UInt8 => (⟨2, t, [], 0⟩ : Sgt)) (l.map (·.tx)) [] [] (none_iff _)
    rw [List.map_map] at h1
    exact h1
  · have h1 := dis_le (fun s : Sgt => s.tx) (l.map (sgt 2)) [] [] (none_iff _)
    rw [List.map_map] at h1
    exact h1
  · have h1 := dis_le (fun s : Sgt => (⟨2, s.tx, [], 0⟩ : Sgt)) (l.map (sgt 3)) [] [] (none_iff _)
    rw [List.map_map] at h1
    exact h1
  · have h1 := dis_le (fun s : Sgt => (⟨3, s.tx, s.md, 0⟩ : Sgt)) (l.map (sgt 4)) [] [] (none_iff _)
    rw [List.map_map] at h1
    exact h1
  · have h1 := dis_len (l.map (sgt 4)) []
    rwa [List.length_map] at h1
theorem dis_hit {S : List (List UInt8)} {x : List UInt8} {t : List (List UInt8)} (h : x ∈ S) : dis S (x :: t) = dis S t := by rw [dis, if_pos h]
theorem dis_new {S : List (List UInt8)} {x : List UInt8} {t : List (List UInt8)} (h : x ∉ S) : dis S (x :: t) = 1 + dis (S ++ [x]) t := by rw [dis, if_neg h]

set_option maxHeartbeats 2000000 in
set_option maxRecDepth 100000 in
theorem hasTextW_c (v : Value) (n B : Nat) (l : List (List UInt8)) (x : ByteArray) (w : World) (hv : Sl w B 1 n v (l.map txt)) (hB : B ≤ w.heap.size) :
    Calls Tryd.prog 26 #[v, .string x] w (BoolPost w (decide (x.data.toList ∈ l))) := by
  obtain ⟨A, c, rfl, hnc, hcm, hln, _⟩ := hv.parts_
  unfold maxLen at hcm
  rw [List.length_map, Nat.mul_one] at hln
  have HV := hid (And.intro hv hln)
  clear hv hln
  go_enter Tryd.func26, Tryd.ntmps26
  go_wp2_with fail
  go_loopw [5] (fun iv wr => ∃ (i : Nat), iv = .int .i64 i ∧ i ≤ n ∧ Hid (x.data.toList ∉ l.take i) ∧ Hid (Below w.heap.size w wr)) (fun iv _ => n - (intOf iv).toNat)
  case atStart => exact ⟨0, rfl, by omega, by simp [Hid], Below.refl _ _⟩
  case round =>
    obtain ⟨i, rfl, hi, HN, HB⟩ := hrel
    by_cases hlt : i < n
    · obtain ⟨b, o, p, rfl, hbB, hx, g0⟩ := (HV.out.1.below HB.out hB).text hlt
      obtain ⟨z, e1, e2⟩ := eq_boolR p x
      have HX := hid hx
      have HZ := hid e2
      clear hx e2
      cases z with
      | true =>
        have HE := hid (show decide (x.data.toList ∈ l) = true from decide_eq_true (by rw [← of_decide_eq_true HZ.out]; exact List.mem_of_getElem? HX.out))
        go_wp2_with fail
        go_ret
        exact ⟨by rw [HE.out]; rfl, HB.out⟩
      | false =>
        have HN2 := hid (show x.data.toList ∉ l.take (i + 1) by
          rw [List.take_add_one, HX.out]
          intro h9
          rcases List.mem_append.1 h9 with h9 | h9
          · exact HN.out h9
          · exact of_decide_eq_false HZ.out (List.mem_singleton.1 h9).symm)
        go_wp2_with fail
        go_roundw
        case rel => exact ⟨i + 1, by go_num, by omega, HN2.out, HB.out⟩
        case measure => simp [intOf]; omega
    · have HE := hid (show decide (x.data.toList ∈ l) = false from decide_eq_false (by have h9 := HN.out; rwa [List.take_of_length_le (by have := HV.out.2; omega)] at h9))
      go_wp2_with fail
      go_ret
      exact ⟨by rw [HE.out]; rfl, HB.out⟩
end Go.Proofs.YtaniaadmphojeaaDoor
