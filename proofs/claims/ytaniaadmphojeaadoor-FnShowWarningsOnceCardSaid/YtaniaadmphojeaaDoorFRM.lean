/-
  SP1, FR1, FR2, FR3 laid together.
-/
import Derived.Shelf.Strings.Split
import Derived.Shelf.Strings.Cut
import Derived.Shelf.Lays
import Derived.Test.YtaniaadmphojeaaDoorBase
import Derived.Test.YtaniaadmphojeaaDoorShl
import Derived.Test.YtaniaadmphojeaaDoorGM
import Derived.Test.YtaniaadmphojeaaDoorUM
import Derived.Stop.Asserts
import Derived.Test.YtaniaadmphojeaaDoorLookI
/-
  strings.Split and strings.Cut AT A SEPARATOR OF ONE BYTE: no variable of the library's is read. Over any program.
-/
namespace Go.Proofs.YtaniaadmphojeaaDoor
open Go.Shelf Go.RowKit Go.Proofs.YtaniaadmphojeaaDoor.Nm
set_option linter.unusedSimpArgs false
set_option linter.unusedVariables false
variable {P : Program} {ρ : Ren}

theorem indexB_one (x : ByteArray) (c : UInt8) : Lib.indexB x ⟨#[c]⟩ = Lib.indexByte x.data.toList c := Lib.index_one x.data.toList c
theorem countB_one (x : ByteArray) (c : UInt8) : Lib.countB x ⟨#[c]⟩ = Lib.countByte x.data.toList c := Lib.count_one c x.data.toList

set_option maxHeartbeats 1000000 in
theorem split_one (L : Lays.n146 P ρ) (hi9 : (P.info? (ρ.t 9)).map (fun i => (i.zero, i.size, i.bytes)) = some (some (.string ByteArray.empty), 1, 16)) (s : ByteArray) (c : UInt8) (w : World) (hs : s.size < 4294967281) :
    Calls P (ρ.f 146) #[.string s, .string ⟨#[c]⟩] w fun e w' =>
      e = .returned (.slice (some ⟨w.heap.size, 0, none⟩) (Lib.countB s ⟨#[c]⟩ + 1) (Lib.countB s ⟨#[c]⟩ + 1)) ∧ w' = w.alloc (.cells ((Lib.splitB ⟨#[c]⟩ 0 (Lib.countB s ⟨#[c]⟩) s).map Value.string).toArray (ρ.t 9)) := by
  have h1 : 1 ≤ (⟨#[c]⟩ : ByteArray).size := Nat.le_refl _
  have hle := Lib.countB_le ⟨#[c]⟩ h1 s.size s (Nat.le_refl _)
  have hlen := Lib.splitB_all ⟨#[c]⟩ h1 0 _ s rfl
  have c9 := Any.strings_genSplit_core { L with } hi9 s ⟨#[c]⟩ 0 (-1) (Lib.countB s ⟨#[c]⟩ + 1) w hs h1 (Nat.zero_le _)
    (fun x c0 _ => by rw [indexB_one]; exact Any.strings_Index_one { L with } x c _)
    (by rw [countB_one]; exact Any.strings_Count_one { L with } s c w) (by decide) (by decide) (by rw [if_pos (by decide)]; omega)
  rw [Nat.add_sub_cancel, hlen] at c9
  have e2 : Lib.cellsOf (Lib.splitB ⟨#[c]⟩ 0 (Lib.countB s ⟨#[c]⟩) s) (Lib.countB s ⟨#[c]⟩ + 1) = ((Lib.splitB ⟨#[c]⟩ 0 (Lib.countB s ⟨#[c]⟩) s).map Value.string).toArray := by rw [← hlen]; exact Lib.cellsOf_full _
  rw [e2] at c9
  have t3 := L.t3; have t9 := L.t9; have t31 := L.t31
  have a3 := L.a3; have a9 := L.a9; have a31 := L.a31
  have z3 := L.z3; have v3 := L.v3; have z9 := L.z9; have v9 := L.v9; have z31 := L.z31; have v31 := L.v31
  have e221 : ∀ args w, (callFunc (ρ.f 221) args).run P w = .ok (.enter (ρ.f 221) args) w := enters_of L.f221 (by kernel_rfl) rfl
  generalize Lib.countB s ⟨#[c]⟩ = nn at *
  go_enter L.f146, Body.n146_ntmps ρ
  go_wp2_with (go_at_fn (ρ.f 221); refine c9.mono ?_; rintro e w' ⟨rfl, hw⟩; rw [hw])
  go_ret
  exact ⟨rfl, rfl⟩

/-- the shelf's pieces are ours -/
theorem split_eq (c : UInt8) : ∀ (k : Nat) (s : List UInt8), s.length ≤ k → Lib.split s [c] = splitB c s := by
  intro k
  induction k with
  | zero =>
    intro s hs
    have : s = [] := List.length_eq_zero_iff.1 (by omega)
    subst this
    rfl
  | succ k ih =>
    intro s hs
    unfold Lib.split
    by_cases hm : c ∈ s
    · obtain ⟨i, hi⟩ : ∃ i : Nat, Lib.indexByte s c = i := by
        have hge := Lib.indexByte_ge s c
        by_cases h : Lib.indexByte s c = -1
        · exfalso
          obtain ⟨j, hj⟩ := List.mem_iff_getElem?.1 hm
          exact Lib.indexByte_none h j hj
        · exact ⟨(Lib.indexByte s c).toNat, by omega⟩
      obtain ⟨hat, hno⟩ := Lib.indexByte_some hi
      have hlt := (List.getElem?_eq_some_iff.1 hat).1
      have hsp : s = s.take i ++ c :: s.drop (i + 1) := by
        have := (List.getElem?_eq_some_iff.1 hat).2
        rw [← this, ← List.drop_eq_getElem_cons hlt, List.take_append_drop]
      have hnc : ∀ x ∈ s.take i, x ≠ c := by
        intro x hx e
        subst e
        obtain ⟨j, hj⟩ := List.mem_iff_getElem?.1 hx
        have hji : j < i := by have := (List.getElem?_eq_some_iff.1 hj).1; simp at this; omega
        rw [List.getElem?_take_of_lt hji] at hj
        exact hno j hji hj
      have hcnt : Lib.count s [c] = Lib.count (s.drop (i + 1)) [c] + 1 := by
        rw [Lib.count_one, Lib.count_one]
        conv => lhs; rw [hsp]
        rw [List.count_append, List.count_cons_self, List.count_eq_zero_of_not_mem (fun h => hnc c h rfl)]
        omega
      rw [hcnt, Lib.splitK, Lib.index_one, hi, if_neg (by simp)]
      rw [show ((i : Int)).toNat = i by omega]
      conv => rhs; rw [hsp]
      rw [splitB_app c _ _ hnc]
      have := ih (s.drop (i + 1)) (by rw [List.length_drop]; omega)
      unfold Lib.split at this
      simp only [Nat.add_zero, List.length_cons, List.length_nil, Nat.zero_add]
      rw [this]
    · have hz : Lib.count s [c] = 0 := by rw [Lib.count_one]; exact List.count_eq_zero_of_not_mem hm
      rw [hz, splitB_one c s (fun x hx e => hm (by rw [← e]; exact hx))]
      rfl
theorem split_map (s : ByteArray) (c : UInt8) : (Lib.splitB ⟨#[c]⟩ 0 (Lib.countB s ⟨#[c]⟩) s).map (·.data.toList) = splitB c s.data.toList := by
  rw [Lib.splitB_data]
  exact split_eq c _ _ (Nat.le_refl _)
theorem split_cells (s : ByteArray) (c : UInt8) : (Lib.splitB ⟨#[c]⟩ 0 (Lib.countB s ⟨#[c]⟩) s).map Value.string = (splitB c s.data.toList).map txt := by
  rw [← split_map, List.map_map]
  rfl
theorem split_count (s : ByteArray) (c : UInt8) : Lib.countB s ⟨#[c]⟩ + 1 = (splitB c s.data.toList).length := by
  rw [← split_map, List.length_map, Lib.splitB_all ⟨#[c]⟩ (Nat.le_refl _) 0 _ s rfl]

set_option maxHeartbeats 1000000 in
/-- strings.Split at a separator of one byte, in our words -/
theorem splitOne_c (L : Lays.n146 P ρ) (hi9 : (P.info? (ρ.t 9)).map (fun i => (i.zero, i.size, i.bytes)) = some (some (.string ByteArray.empty), 1, 16)) (s : ByteArray) (c : UInt8) (w : World) (hs : s.size ≤ 1048576) :
    Calls P (ρ.f 146) #[.string s, .string ⟨#[c]⟩] w fun e w' => ∃ b n : Nat, e = .returned (.slice (some ⟨b, 0, none⟩) n n) ∧ n = (splitB c s.data.toList).length ∧ w'.ownsRow w.heap.size (ρ.t 9) 1 (.slice (some ⟨b, 0, none⟩) n n) n ((splitB c s.data.toList).map txt) ∧ Below w.heap.size w w' := by
  refine (split_one L hi9 s c w (by omega)).mono ?_
  rintro e w' ⟨rfl, rfl⟩
  have hn : Lib.countB s ⟨#[c]⟩ + 1 ≤ maxLen := by
    have := Lib.countB_le ⟨#[c]⟩ (Nat.le_refl _) s.size s (Nat.le_refl _)
    unfold maxLen; omega
  have hl := split_count s c
  refine ⟨_, _, rfl, hl, ?_, (Below.refl _ _).alloc (Nat.le_refl _) _⟩
  rw [split_cells]
  exact ⟨by simp [hl], .inr ⟨_, _, _, rfl, Nat.le_refl _, heap_alloc_new w _, Nat.le_refl _, hn, by simp [hl], by simp [hl, List.take_of_length_le]⟩⟩
end Go.Proofs.YtaniaadmphojeaaDoor

/-
  FILTERS ASKED: the program's words of a text, gates, filters as gates.
-/
namespace Go.Proofs.YtaniaadmphojeaaDoor
open Go.RowKit Go.Proofs.YtaniaadmphojeaaDoor.Nm
set_option linter.unusedSimpArgs false
set_option linter.unusedVariables false

theorem splitB_le (c : UInt8) (l : List UInt8) : ∀ t ∈ splitB c l, t.length ≤ l.length := by
  induction l with
  | nil => intro t ht; simp [splitB] at ht; subst ht; simp
  | cons b r ih =>
    intro t ht
    unfold splitB at ht
    split at ht
    · rcases List.mem_cons.1 ht with rfl | ht
      · simp
      · have := ih t ht; simp; omega
    · split at ht
      · simp at ht; subst ht; simp
      · rename_i w ws hw
        rcases List.mem_cons.1 ht with rfl | ht
        · have := ih w (by rw [hw]; simp); simp; omega
        · have := ih t (by rw [hw]; simp [ht]); simp; omega

theorem splitSpace_c (s : ByteArray) (w : World) (hs : s.size ≤ 1048576) :
    Calls Tryd.prog 78 #[.string s, .string ⟨#[32]⟩] w fun e w' => ∃ b n : Nat, e = .returned (.slice (some ⟨b, 0, none⟩) n n) ∧ n = (splitB 32 s.data.toList).length ∧ w'.ownsRow w.heap.size 9 1 (.slice (some ⟨b, 0, none⟩) n n) n ((splitB 32 s.data.toList).map txt) ∧ Below w.heap.size w w' :=
  splitOne_c Tryd.lays146 (by kernel_rfl) s 32 w hs

set_option maxHeartbeats 400000 in
set_option maxRecDepth 100000 in
theorem implHasWord_c (s x : ByteArray) (w : World) (hs : s.size ≤ 1048576) :
    Calls Tryd.prog 74 #[.string s, .string x] w (BoolPost w (hasW s.data.toList x.data.toList)) := by
  have C := hid (splitSpace_c s w hs)
  have HL := hid (fun t ht => Nat.le_trans (splitB_le 32 s.data.toList t ht) (show s.data.toList.length ≤ maxTxt by rw [← Lib.size_eq]; unfold maxTxt; exact hs))
  have HE := hid (show hasW s.data.toList x.data.toList = decide (x.data.toList ∈ splitB 32 s.data.toList) from rfl)
  generalize splitB 32 s.data.toList = ws at C HL HE
  generalize hasW s.data.toList x.data.toList = z at HE ⊢
  clear hs
  go_enter Tryd.func74, Tryd.ntmps74
  go_wp2_with fail
  refine C.out.mono ?_
  rintro e w1 ⟨b, n, rfl, hn, ho, hb⟩
  have CT := hid (containsTxt_c (.slice (some ⟨b, 0, none⟩) n n) n w1.heap.size ws x w1 ⟨Sl.of_own ho, HL.out⟩)
  have HB := hid hb
  clear hn ho hb
  go_wp2_with fail
  refine CT.out.mono ?_
  rintro e w2 ⟨rfl, rfl⟩
  go_wp2_with fail
  go_ret
  exact ⟨ret_bool HE.out.symm, HB.out⟩

end Go.Proofs.YtaniaadmphojeaaDoor

/-
  FILTERS ASKED: the model's hasWord, filtered, FilterRecord. By gen_fr.py.
-/
namespace Go.Proofs.YtaniaadmphojeaaDoor
open Go.RowKit Go.Proofs.YtaniaadmphojeaaDoor.Nm
set_option linter.unusedSimpArgs false
set_option linter.unusedVariables false

def recOut (nm tx : ByteArray) (sq : Int) : Option Int → Value
  | some q => .agg #[.string nm, .int .i64 q, .string tx, .int .i64 sq]
  | none => .agg #[.string ⟨#[]⟩, .int .i64 0, .string ⟨#[]⟩, .int .i64 0]
def FiltPost (w : World) (nm tx : ByteArray) (sq : Int) (o : Option Int) (e : Ending) (w' : World) : Prop := e = .returned (.tuple #[recOut nm tx sq o, .bool o.isSome]) ∧ Below w.heap.size w w'
theorem splitB_le' (c : UInt8) (l : List UInt8) : ∀ t ∈ splitB c l, t.length ≤ l.length := by
  induction l with
  | nil => intro t ht; simp [splitB] at ht; subst ht; simp
  | cons b r ih =>
    intro t ht
    unfold splitB at ht
    split at ht
    · rcases List.mem_cons.1 ht with rfl | ht
      · simp
      · have := ih t ht; simp; omega
    · split at ht
      · simp at ht; subst ht; simp
      · rename_i w ws hw
        rcases List.mem_cons.1 ht with rfl | ht
        · have := ih w (by rw [hw]; simp); simp; omega
        · have := ih t (by rw [hw]; simp [ht]); simp; omega
theorem flt_kinds {f : Flt} (h : fltOk f = true) : f.k = 0 ∨ f.k = 1 ∨ f.k = 2 ∨ f.k = 3 := by
  by_cases h0 : f.k = 0
  · exact .inl h0
  by_cases h2 : f.k = 2
  · exact .inr (.inr (.inl h2))
  by_cases h13 : f.k = 1 ∨ f.k = 3
  · rcases h13 with h | h
    · exact .inr (.inl h)
    · exact .inr (.inr (.inr h))
  · rw [fltx f h0 h2 h13] at h; cases h
theorem pass0 {nm tx : List UInt8} {f : Flt} {q : Int} (h : f.k = 0) : passF nm tx f q = if belowL nm f.nm then some q else none := by simp [passF, h]
theorem pass1 {nm tx : List UInt8} {f : Flt} {q : Int} (h : f.k = 1) : passF nm tx f q = if q ≤ f.n then some q else none := by simp [passF, h]
theorem pass2 {nm tx : List UInt8} {f : Flt} {q : Int} (h : f.k = 2) : passF nm tx f q = if hasW tx f.nm then none else some q := by simp [passF, h]
theorem pass3 {nm tx : List UInt8} {f : Flt} {q : Int} (h : f.k = 3) : passF nm tx f q = some (if q < f.n then f.n else q) := by simp [passF, h]

set_option maxHeartbeats 400000 in
set_option maxRecDepth 100000 in
theorem specHasWord_c (s x : ByteArray) (w : World) (hs : s.size ≤ 1048576) :
    Calls Tryd.prog 72 #[.string s, .string x] w (BoolPost w (hasW s.data.toList x.data.toList)) := by
  have C := hid (splitAt_c s 32 w hs)
  have HL := hid (fun t ht => Nat.le_trans (splitB_le' 32 s.data.toList t ht) (show s.data.toList.length ≤ maxTxt by rw [← Lib.size_eq]; unfold maxTxt; exact hs))
  have HE := hid (show hasW s.data.toList x.data.toList = decide (x.data.toList ∈ splitB 32 s.data.toList) from rfl)
  generalize splitB 32 s.data.toList = ws at C HL HE
  generalize hasW s.data.toList x.data.toList = z at HE ⊢
  clear hs
  go_enter Tryd.func72, Tryd.ntmps72
  go_wp2_with fail
  refine C.out.mono ?_
  rintro e w1 ⟨v, rfl, ho, hb⟩
  obtain ⟨A, c, rfl, _, _⟩ := (Sl.of_own ho).form
  have CT := hid (hasText_c (.slice A ws.length c) ws.length w1.heap.size ws x w1 ⟨Sl.of_own ho, HL.out⟩)
  have HB := hid hb
  clear ho hb
  go_wp2_with fail
  refine CT.out.mono ?_
  rintro e w2 ⟨rfl, h9⟩
  obtain rfl := h9
  go_wp2_with fail
  go_ret
  exact ⟨ret_bool HE.out.symm, HB.out⟩

end Go.Proofs.YtaniaadmphojeaaDoor

/-
  FILTERS ASKED: FilterRecord of both. By gen_fr.py.
-/
namespace Go.Proofs.YtaniaadmphojeaaDoor
open Go.RowKit Go.Proofs.YtaniaadmphojeaaDoor.Nm
set_option linter.unusedSimpArgs false
set_option linter.unusedVariables false

def fX (l : List Flt) (nm tx : ByteArray) (lv sq : Int) : Option Int := if filtersOk l && recOk ⟨nm.data.toList, lv, tx.data.toList, sq⟩ then filtL nm.data.toList tx.data.toList l lv else none
theorem rec_range {nm tx : List UInt8} {lv sq : Int} (h : recOk ⟨nm, lv, tx, sq⟩ = true) : 1 ≤ lv ∧ lv ≤ 60 := by
  unfold recOk at h; simp only [Bool.and_eq_true, decide_eq_true_eq] at h; omega
theorem flts_all {l : List Flt} (h : filtersOk l = true) : l.all fltOk = true := by
  unfold filtersOk at h; rw [Bool.and_eq_true] at h; exact h.1
end Go.Proofs.YtaniaadmphojeaaDoor
