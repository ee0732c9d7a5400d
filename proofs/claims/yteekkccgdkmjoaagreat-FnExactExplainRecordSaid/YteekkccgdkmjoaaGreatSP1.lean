/-
  strings.Split and strings.Cut AT A SEPARATOR OF ONE BYTE: no variable of the library's is read. Over any program.
-/
import Derived.Shelf.Strings.Split
import Derived.Shelf.Strings.Cut
import Derived.Shelf.Lays
import Derived.Test.YteekkccgdkmjoaaGreatBase
namespace Go.Proofs.YteekkccgdkmjoaaGreat
open Go.Shelf Go.RowKit Go.Proofs.YteekkccgdkmjoaaGreat.Nm
set_option linter.unusedSimpArgs false
set_option linter.unusedVariables false
variable {P : Program} {ρ : Ren}

theorem indexB_one (x : ByteArray) (c : UInt8) : Lib.indexB x ⟨#[c]⟩ = Lib.indexByte x.data.toList c := Lib.index_one x.data.toList c
theorem countB_one (x : ByteArray) (c : UInt8) : Lib.countB x ⟨#[c]⟩ = Lib.countByte x.data.toList c := Lib.count_one c x.data.toList

set_option maxHeartbeats 1000000 in
theorem split_one (L : Lays.n146 P ρ) (hi9 : (P.info? (ρ.t 9)).map (fun i => (i.zero, i.size, i.bytes)) = some (some (.string ByteArray.empty), 1, 16)) (s : ByteArray) (c : UInt8) (w : World) (hs : s.size < 4294967281) :
    Calls P (ρ.f 146) #[.string s, .string ⟨#[c]⟩] w fun e w' =>
      e = .returned (.slice (some ⟨w.heap.size, 0, none⟩) (Lib.countB s ⟨#[c]⟩ + 1) (Lib.countB s ⟨#[c]⟩ + 1)) ∧ w' = w.alloc (.cells ((Lib.splitB ⟨#[c]⟩ 0 (Lib.countB s ⟨#[c]⟩) s).map Value.string).toArray (ρ.t 9)) := by
  have h1 : 1 ≤ (⟨#[c]⟩ : ByteArray).size := Nat.le_refl _
  have hle := Lib.countB_le ⟨#[c]⟩ h1 s.size s (Nat.le_refl _)
  have hlen := Lib.splitB_all ⟨#[c]⟩ h1 0 _ s rfl
  have c9 := Any.strings_genSplit_core { L with } hi9 s ⟨#[c]⟩ 0 (-1) (Lib.countB s ⟨#[c]⟩ + 1) w hs h1 (Nat.zero_le _)
    (fun x c0 _ => by rw [indexB_one]; exact Any.strings_Index_one { L with } x c _)
    (by rw [countB_one]; exact Any.strings_Count_one { L with } s c w) (by decide) (by decide) (by rw [if_pos (by decide)]; omega)
  rw [Nat.add_sub_cancel, hlen] at c9
  have e2 : Lib.cellsOf (Lib.splitB ⟨#[c]⟩ 0 (Lib.countB s ⟨#[c]⟩) s) (Lib.countB s ⟨#[c]⟩ + 1) = ((Lib.splitB ⟨#[c]⟩ 0 (Lib.countB s ⟨#[c]⟩) s).map Value.string).toArray := by rw [← hlen]; exact Lib.cellsOf_full _
  rw [e2] at c9
  have t3 := L.t3; have t9 := L.t9; have t31 := L.t31
  have a3 := L.a3; have a9 := L.a9; have a31 := L.a31
  have z3 := L.z3; have v3 := L.v3; have z9 := L.z9; have v9 := L.v9; have z31 := L.z31; have v31 := L.v31
  have e221 : ∀ args w, (callFunc (ρ.f 221) args).run P w = .ok (.enter (ρ.f 221) args) w := enters_of L.f221 (by kernel_rfl) rfl
  generalize Lib.countB s ⟨#[c]⟩ = nn at *
  go_enter L.f146, Body.n146_ntmps ρ
  go_wp2_with (go_at_fn (ρ.f 221); refine c9.mono ?_; rintro e w' ⟨rfl, hw⟩; rw [hw])
  go_ret
  exact ⟨rfl, rfl⟩

/-- the shelf's pieces are ours -/
theorem split_eq (c : UInt8) : ∀ (k : Nat) (s : List UInt8), s.length ≤ k → Lib.split s [c] = splitB c s := by
  intro k
  induction k with
  | zero =>
    intro s hs
    have : s = [] := List.length_eq_zero_iff.1 (by omega)
    subst this
    rfl
  | succ k ih =>
    intro s hs
    unfold Lib.split
    by_cases hm : c ∈ s
    · obtain ⟨i, hi⟩ : ∃ i : Nat, Lib.indexByte s c = i := by
        have hge := Lib.indexByte_ge s c
        by_cases h : Lib.indexByte s c = -1
        · exfalso
          obtain ⟨j, hj⟩ := List.mem_iff_getElem?.1 hm
          exact Lib.indexByte_none h j hj
        · exact ⟨(Lib.indexByte s c).toNat, by omega⟩
      obtain ⟨hat, hno⟩ := Lib.indexByte_some hi
      have hlt := (List.getElem?_eq_some_iff.1 hat).1
      have hsp : s = s.take i ++ c :: s.drop (i + 1) := by
        have := (List.getElem?_eq_some_iff.1 hat).2
        rw [← this, ← List.drop_eq_getElem_cons hlt, List.take_append_drop]
      have hnc : ∀ x ∈ s.take i, x ≠ c := by
        intro x hx e
        subst e
        obtain ⟨j, hj⟩ := List.mem_iff_getElem?.1 hx
        have hji : j < i := by have := (List.getElem?_eq_some_iff.1 hj).1; simp at this; omega
        rw [List.getElem?_take_of_lt hji] at hj
        exact hno j hji hj
      have hcnt : Lib.count s [c] = Lib.count (s.drop (i + 1)) [c] + 1 := by
        rw [Lib.count_one, Lib.count_one]
        conv => lhs; rw [hsp]
        rw [List.count_append, List.count_cons_self, List.count_eq_zero_of_not_mem (fun h => hnc c h rfl)]
        omega
      rw [hcnt, Lib.splitK, Lib.index_one, hi, if_neg (by simp)]
      rw [show ((i : Int)).toNat = i by omega]
      conv => rhs; rw [hsp]
      rw [splitB_app c _ _ hnc]
      have := ih (s.drop (i + 1)) (by rw [List.length_drop]; omega)
      unfold Lib.split at this
      simp only [Nat.add_zero, List.length_cons, List.length_nil, Nat.zero_add]
      rw [this]
    · have hz : Lib.count s [c] = 0 := by rw [Lib.count_one]; exact List.count_eq_zero_of_not_mem hm
      rw [hz, splitB_one c s (fun x hx e => hm (by rw [← e]; exact hx))]
      rfl
theorem split_map (s : ByteArray) (c : UInt8) : (Lib.splitB ⟨#[c]⟩ 0 (Lib.countB s ⟨#[c]⟩) s).map (·.data.toList) = splitB c s.data.toList := by
  rw [Lib.splitB_data]
  exact split_eq c _ _ (Nat.le_refl _)
theorem split_cells (s : ByteArray) (c : UInt8) : (Lib.splitB ⟨#[c]⟩ 0 (Lib.countB s ⟨#[c]⟩) s).map Value.string = (splitB c s.data.toList).map txt := by
  rw [← split_map, List.map_map]
  rfl
theorem split_count (s : ByteArray) (c : UInt8) : Lib.countB s ⟨#[c]⟩ + 1 = (splitB c s.data.toList).length := by
  rw [← split_map, List.length_map, Lib.splitB_all ⟨#[c]⟩ (Nat.le_refl _) 0 _ s rfl]

set_option maxHeartbeats 1000000 in
/-- strings.Split at a separator of one byte, in our words -/
theorem splitOne_c (L : Lays.n146 P ρ) (hi9 : (P.info? (ρ.t 9)).map (fun i => (i.zero, i.size, i.bytes)) = some (some (.string ByteArray.empty), 1, 16)) (s : ByteArray) (c : UInt8) (w : World) (hs : s.size ≤ 1048576) :
    Calls P (ρ.f 146) #[.string s, .string ⟨#[c]⟩] w fun e w' => ∃ b n : Nat, e = .returned (.slice (some ⟨b, 0, none⟩) n n) ∧ n = (splitB c s.data.toList).length ∧ w'.ownsRow w.heap.size (ρ.t 9) 1 (.slice (some ⟨b, 0, none⟩) n n) n ((splitB c s.data.toList).map txt) ∧ Below w.heap.size w w' := by
  refine (split_one L hi9 s c w (by omega)).mono ?_
  rintro e w' ⟨rfl, rfl⟩
  have hn : Lib.countB s ⟨#[c]⟩ + 1 ≤ maxLen := by
    have := Lib.countB_le ⟨#[c]⟩ (Nat.le_refl _) s.size s (Nat.le_refl _)
    unfold maxLen; omega
  have hl := split_count s c
  refine ⟨_, _, rfl, hl, ?_, (Below.refl _ _).alloc (Nat.le_refl _) _⟩
  rw [split_cells]
  exact ⟨by simp [hl], .inr ⟨_, _, _, rfl, Nat.le_refl _, heap_alloc_new w _, Nat.le_refl _, hn, by simp [hl], by simp [hl, List.take_of_length_le]⟩⟩
end Go.Proofs.YteekkccgdkmjoaaGreat
