/-
  SP1, FR1, FR2, FR3 laid together.
-/
import Derived.Shelf.Strings.Split
import Derived.Shelf.Strings.Cut
import Derived.Shelf.Lays
import Derived.Test.YtlifaeleoiodkaaGreatDoorBase
import Derived.Test.YtlifaeleoiodkaaGreatDoorShl
import Derived.Test.YtlifaeleoiodkaaGreatDoorGM
import Derived.Test.YtlifaeleoiodkaaGreatDoorUM
import Derived.Stop.Asserts
import Derived.Test.YtlifaeleoiodkaaGreatDoorLookI
/-
  strings.Split and strings.Cut AT A SEPARATOR OF ONE BYTE: no variable of the library's is read. Over any program.
-/
namespace Go.Proofs.YtlifaeleoiodkaaGreatDoor
open Go.Shelf Go.RowKit Go.Proofs.YtlifaeleoiodkaaGreatDoor.Nm
set_option linter.unusedSimpArgs false
set_option linter.unusedVariables false
variable {P : Program} {ρ : Ren}

theorem indexB_one (x : ByteArray) (c : UInt8) : Lib.indexB x ⟨#[c]⟩ = Lib.indexByte x.data.toList c := Lib.index_one x.data.toList c
theorem countB_one (x : ByteArray) (c : UInt8) : Lib.countB x ⟨#[c]⟩ = Lib.countByte x.data.toList c := Lib.count_one c x.data.toList

set_option maxHeartbeats 1000000 in
theorem split_one (L : Lays.n146 P ρ) (hi9 : (P.info? (ρ.t 9)).map (fun i => (i.zero, i.size, i.bytes)) = some (some (.string ByteArray.empty), 1, 16)) (s : ByteArray) (c : UInt8) (w : World) (hs : s.size < 4294967281) :
    Calls P (ρ.f 146) #[.string s, .string ⟨#[c]⟩] w fun e w' =>
      e = .returned (.slice (some ⟨w.heap.size, 0, none⟩) (Lib.countB s ⟨#[c]⟩ + 1) (Lib.countB s ⟨#[c]⟩ + 1)) ∧ w' = w.alloc (.cells ((Lib.splitB ⟨#[c]⟩ 0 (Lib.countB s ⟨#[c]⟩) s).map Value.string).toArray (ρ.t 9)) := by
  have h1 : 1 ≤ (⟨#[c]⟩ : ByteArray).size := Nat.le_refl _
  have hle := Lib.countB_le ⟨#[c]⟩ h1 s.size s (Nat.le_refl _)
  have hlen := Lib.splitB_all ⟨#[c]⟩ h1 0 _ s rfl
  have c9 := Any.strings_genSplit_core { L with } hi9 s ⟨#[c]⟩ 0 (-1) (Lib.countB s ⟨#[c]⟩ + 1) w hs h1 (Nat.zero_le _)
    (fun x c0 _ => by rw [indexB_one]; exact Any.strings_Index_one { L with } x c _)
    (by rw [countB_one]; exact Any.strings_Count_one { L with } s c w) (by decide) (by decide) (by rw [if_pos (by decide)]; omega)
  rw [Nat.add_sub_cancel, hlen] at c9
  have e2 : Lib.cellsOf (Lib.splitB ⟨#[c]⟩ 0 (Lib.countB s ⟨#[c]⟩) s) (Lib.countB s ⟨#[c]⟩ + 1) = ((Lib.splitB ⟨#[c]⟩ 0 (Lib.countB s ⟨#[c]⟩) s).map Value.string).toArray := by rw [← hlen]; exact Lib.cellsOf_full _
  rw [e2] at c9
  have t3 := L.t3; have t9 := L.t9; have t31 := L.t31
  have a3 := L.a3; have a9 := L.a9; have a31 := L.a31
  have z3 := L.z3; have v3 := L.v3; have z9 := L.z9; have v9 := L.v9; have z31 := L.z31; have v31 := L.v31
  have e221 : ∀ args w, (callFunc (ρ.f 221) args).run P w = .ok (.enter (ρ.f 221) args) w := enters_of L.f221 (by kernel_rfl) rfl
  generalize Lib.countB s ⟨#[c]⟩ = nn at *
  go_enter L.f146, Body.n146_ntmps ρ
  go_wp2_with (go_at_fn (ρ.f 221); refine c9.mono ?_; rintro e w' ⟨rfl, hw⟩; rw [hw])
  go_ret
  exact ⟨rfl, rfl⟩

/-- the shelf's pieces are ours -/
theorem split_eq (c : UInt8) : ∀ (k : Nat) (s : List UInt8), s.length ≤ k → Lib.split s [c] = splitB c s := by
  intro k
  induction k with
  | zero =>
    intro s hs
    have : s = [] := List.length_eq_zero_iff.1 (by omega)
    subst this
    rfl
  | succ k ih =>
    intro s hs
    unfold Lib.split
    by_cases hm : c ∈ s
    · obtain ⟨i, hi⟩ : ∃ i : Nat, Lib.indexByte s c = i := by
        have hge := Lib.indexByte_ge s c
        by_cases h : Lib.indexByte s c = -1
        · exfalso
          obtain ⟨j, hj⟩ := List.mem_iff_getElem?.1 hm
          exact Lib.indexByte_none h j hj
        · exact ⟨(Lib.indexByte s c).toNat, by omega⟩
      obtain ⟨hat, hno⟩ := Lib.indexByte_some hi
      have hlt := (List.getElem?_eq_some_iff.1 hat).1
      have hsp : s = s.take i ++ c :: s.drop (i + 1) := by
        have := (List.getElem?_eq_some_iff.1 hat).2
        rw [← this, ← List.drop_eq_getElem_cons hlt, List.take_append_drop]
      have hnc : ∀ x ∈ s.take i, x ≠ c := by
        intro x hx e
        subst e
        obtain ⟨j, hj⟩ := List.mem_iff_getElem?.1 hx
        have hji : j < i := by have := (List.getElem?_eq_some_iff.1 hj).1; simp at this; omega
        rw [List.getElem?_take_of_lt hji] at hj
        exact hno j hji hj
      have hcnt : Lib.count s [c] = Lib.count (s.drop (i + 1)) [c] + 1 := by
        rw [Lib.count_one, Lib.count_one]
        conv => lhs; rw [hsp]
        rw [List.count_append, List.count_cons_self, List.count_eq_zero_of_not_mem (fun h => hnc c h rfl)]
        omega
      rw [hcnt, Lib.splitK, Lib.index_one, hi, if_neg (by simp)]
      rw [show ((i : Int)).toNat = i by omega]
      conv => rhs; rw [hsp]
      rw [splitB_app c _ _ hnc]
      have := ih (s.drop (i + 1)) (by rw [List.length_drop]; omega)
      unfold Lib.split at this
      simp only [Nat.add_zero, List.length_cons, List.length_nil, Nat.zero_add]
      rw [this]
    · have hz : Lib.count s [c] = 0 := by rw [Lib.count_one]; exact List.count_eq_zero_of_not_mem hm
      rw [hz, splitB_one c s (fun x hx e => hm (by rw [← e]; exact hx))]
      rfl
theorem split_map (s : ByteArray) (c : UInt8) : (Lib.splitB ⟨#[c]⟩ 0 (Lib.countB s ⟨#[c]⟩) s).map (·.data.toList) = splitB c s.data.toList := by
  rw [Lib.splitB_data]
  exact split_eq c _ _ (Nat.le_refl _)
theorem split_cells (s : ByteArray) (c : UInt8) : (Lib.splitB ⟨#[c]⟩ 0 (Lib.countB s ⟨#[c]⟩) s).map Value.string = (splitB c s.data.toList).map txt := by
  rw [← split_map, List.map_map]
  rfl
theorem split_count (s : ByteArray) (c : UInt8) : Lib.countB s ⟨#[c]⟩ + 1 = (splitB c s.data.toList).length := by
  rw [← split_map, List.length_map, Lib.splitB_all ⟨#[c]⟩ (Nat.le_refl _) 0 _ s rfl]

set_option maxHeartbeats 1000000 in
/-- strings.Split at a separator of one byte, in our words -/
theorem splitOne_c (L : Lays.n146 P ρ) (hi9 : (P.info? (ρ.t 9)).map (fun i => (i.zero, i.size, i.bytes)) = some (some (.string ByteArray.empty), 1, 16)) (s : ByteArray) (c : UInt8) (w : World) (hs : s.size ≤ 1048576) :
    Calls P (ρ.f 146) #[.string s, .string ⟨#[c]⟩] w fun e w' => ∃ b n : Nat, e = .returned (.slice (some ⟨b, 0, none⟩) n n) ∧ n = (splitB c s.data.toList).length ∧ w'.ownsRow w.heap.size (ρ.t 9) 1 (.slice (some ⟨b, 0, none⟩) n n) n ((splitB c s.data.toList).map txt) ∧ Below w.heap.size w w' := by
  refine (split_one L hi9 s c w (by omega)).mono ?_
  rintro e w' ⟨rfl, rfl⟩
  have hn : Lib.countB s ⟨#[c]⟩ + 1 ≤ maxLen := by
    have := Lib.countB_le ⟨#[c]⟩ (Nat.le_refl _) s.size s (Nat.le_refl _)
    unfold maxLen; omega
  have hl := split_count s c
  refine ⟨_, _, rfl, hl, ?_, (Below.refl _ _).alloc (Nat.le_refl _) _⟩
  rw [split_cells]
  exact ⟨by simp [hl], .inr ⟨_, _, _, rfl, Nat.le_refl _, heap_alloc_new w _, Nat.le_refl _, hn, by simp [hl], by simp [hl, List.take_of_length_le]⟩⟩
end Go.Proofs.YtlifaeleoiodkaaGreatDoor

/-
  FILTERS ASKED: the program's words of a text, gates, filters as gates.
-/
namespace Go.Proofs.YtlifaeleoiodkaaGreatDoor
open Go.RowKit Go.Proofs.YtlifaeleoiodkaaGreatDoor.Nm
set_option linter.unusedSimpArgs false
set_option linter.unusedVariables false

theorem splitB_le (c : UInt8) (l : List UInt8) : ∀ t ∈ splitB c l, t.length ≤ l.length := by
  induction l with
  | nil => intro t ht; simp [splitB] at ht; subst ht; simp
  | cons b r ih =>
    intro t ht
    unfold splitB at ht
    split at ht
    · rcases List.mem_cons.1 ht with rfl | ht
      · simp
      · have := ih t ht; simp; omega
    · split at ht
      · simp at ht; subst ht; simp
      · rename_i w ws hw
        rcases List.mem_cons.1 ht with rfl | ht
        · have := ih w (by rw [hw]; simp); simp; omega
        · have := ih t (by rw [hw]; simp [ht]); simp; omega

theorem splitSpace_c (s : ByteArray) (w : World) (hs : s.size ≤ 1048576) :
    Calls Tryz.prog 153 #[.string s, .string ⟨#[32]⟩] w fun e w' => ∃ b n : Nat, e = .returned (.slice (some ⟨b, 0, none⟩) n n) ∧ n = (splitB 32 s.data.toList).length ∧ w'.ownsRow w.heap.size 9 1 (.slice (some ⟨b, 0, none⟩) n n) n ((splitB 32 s.data.toList).map txt) ∧ Below w.heap.size w w' :=
  splitOne_c Tryz.lays146 (by kernel_rfl) s 32 w hs

set_option maxHeartbeats 400000 in
set_option maxRecDepth 100000 in
theorem implHasWord_c (s x : ByteArray) (w : World) (hs : s.size ≤ 1048576) :
    Calls Tryz.prog 143 #[.string s, .string x] w (BoolPost w (hasW s.data.toList x.data.toList)) := by
  have C := hid (splitSpace_c s w hs)
  have HL := hid (fun t ht => Nat.le_trans (splitB_le 32 s.data.toList t ht) (show s.data.toList.length ≤ maxTxt by rw [← Lib.size_eq]; unfold maxTxt; exact hs))
  have HE := hid (show hasW s.data.toList x.data.toList = decide (x.data.toList ∈ splitB 32 s.data.toList) from rfl)
  generalize splitB 32 s.data.toList = ws at C HL HE
  generalize hasW s.data.toList x.data.toList = z at HE ⊢
  clear hs
  go_enter Tryz.func143, Tryz.ntmps143
  go_wp2_with fail
  refine C.out.mono ?_
  rintro e w1 ⟨b, n, rfl, hn, ho, hb⟩
  have CT := hid (containsTxt_c (.slice (some ⟨b, 0, none⟩) n n) n w1.heap.size ws x w1 ⟨Sl.of_own ho, HL.out⟩)
  have HB := hid hb
  clear hn ho hb
  go_wp2_with fail
  refine CT.out.mono ?_
  rintro e w2 ⟨rfl, rfl⟩
  go_wp2_with fail
  go_ret
  exact ⟨ret_bool HE.out.symm, HB.out⟩

def gateB (s : ByteArray) : Value := .iface 209 (.agg #[.string s])
def gateM (n : Int) : Value := .iface 210 (.agg #[.int .i64 n])
def gateW (s : ByteArray) : Value := .iface 212 (.agg #[.string s])
def gateR (n : Int) : Value := .iface 203 (.agg #[.int .i64 n])

set_option maxHeartbeats 400000 in
set_option maxRecDepth 100000 in
theorem filterOf0_c (s : ByteArray) (n : Int) (w : World) : Calls Tryz.prog 148 #[.agg #[.int .i64 0, .string s, .int .i64 n]] w fun e w' => e = .returned (gateB s) ∧ Below w.heap.size w w' := by
  go_enter Tryz.func148, Tryz.ntmps148
  go_wp2_with fail
  go_ret
  exact ⟨rfl, by go_grown⟩
set_option maxHeartbeats 400000 in
set_option maxRecDepth 100000 in
theorem filterOf1_c (s : ByteArray) (n : Int) (w : World) : Calls Tryz.prog 148 #[.agg #[.int .i64 1, .string s, .int .i64 n]] w fun e w' => e = .returned (gateM n) ∧ Below w.heap.size w w' := by
  go_enter Tryz.func148, Tryz.ntmps148
  go_wp2_with fail
  go_ret
  exact ⟨rfl, by go_grown⟩
set_option maxHeartbeats 400000 in
set_option maxRecDepth 100000 in
theorem filterOf2_c (s : ByteArray) (n : Int) (w : World) : Calls Tryz.prog 148 #[.agg #[.int .i64 2, .string s, .int .i64 n]] w fun e w' => e = .returned (gateW s) ∧ Below w.heap.size w w' := by
  go_enter Tryz.func148, Tryz.ntmps148
  go_wp2_with fail
  go_ret
  exact ⟨rfl, by go_grown⟩
set_option maxHeartbeats 400000 in
set_option maxRecDepth 100000 in
theorem filterOf3_c (s : ByteArray) (n : Int) (w : World) : Calls Tryz.prog 148 #[.agg #[.int .i64 3, .string s, .int .i64 n]] w fun e w' => e = .returned (gateR n) ∧ Below w.heap.size w w' := by
  go_enter Tryz.func148, Tryz.ntmps148
  go_wp2_with fail
  go_ret
  exact ⟨rfl, by go_grown⟩

set_option maxHeartbeats 400000 in
set_option maxRecDepth 100000 in
theorem branchLets_c (g nm tx : ByteArray) (lv sq : Int) (w : World) (h1 : nm.size ≤ 1048576) (h2 : g.size ≤ 1048576) :
    Calls Tryz.prog 190 #[.agg #[.string g], .agg #[.string nm, .int .i64 lv, .string tx, .int .i64 sq]] w (BoolPost w (belowL nm.data.toList g.data.toList)) := by
  have C := hid (fun W => inBranch_c nm g W (by unfold maxLen; omega) (by omega))
  generalize belowL nm.data.toList g.data.toList = z at C ⊢
  go_enter Tryz.func190, Tryz.ntmps190
  go_wp2_with fail
  refine (C.out _).mono ?_
  rintro e w2 ⟨rfl, rfl⟩
  go_wp2_with fail
  go_ret
  exact ⟨rfl, by go_grown⟩
set_option maxHeartbeats 400000 in
set_option maxRecDepth 100000 in
theorem mostLets_c (n : Int) (nm tx : ByteArray) (lv sq : Int) (w : World) :
    Calls Tryz.prog 191 #[.agg #[.int .i64 n], .agg #[.string nm, .int .i64 lv, .string tx, .int .i64 sq]] w (BoolPost w (decide (lv ≤ n))) := by
  go_enter Tryz.func191, Tryz.ntmps191
  go_wp2_with fail
  go_ret
  exact ⟨ret_bool (by simp), by go_grown⟩
set_option maxHeartbeats 400000 in
set_option maxRecDepth 100000 in
theorem wordLets_c (g nm tx : ByteArray) (lv sq : Int) (w : World) (h1 : tx.size ≤ 1048576) :
    Calls Tryz.prog 192 #[.agg #[.string g], .agg #[.string nm, .int .i64 lv, .string tx, .int .i64 sq]] w (BoolPost w (!hasW tx.data.toList g.data.toList)) := by
  have C := hid (fun W => implHasWord_c tx g W h1)
  generalize hasW tx.data.toList g.data.toList = z at C ⊢
  go_enter Tryz.func192, Tryz.ntmps192
  go_wp2_with fail
  refine (C.out _).mono ?_
  rintro e w2 ⟨rfl, hb⟩
  have HB := hid (Below.trans (by go_grown) (hb.mono (by simp; try omega)) : Below w.heap.size w w2)
  clear hb
  go_wp2_with fail
  go_ret
  exact ⟨rfl, HB.out⟩
end Go.Proofs.YtlifaeleoiodkaaGreatDoor

/-
  FILTERS ASKED: the model's hasWord, filtered, FilterRecord. By gen_fr.py.
-/
namespace Go.Proofs.YtlifaeleoiodkaaGreatDoor
open Go.RowKit Go.Proofs.YtlifaeleoiodkaaGreatDoor.Nm
set_option linter.unusedSimpArgs false
set_option linter.unusedVariables false

def recOut (nm tx : ByteArray) (sq : Int) : Option Int → Value
  | some q => .agg #[.string nm, .int .i64 q, .string tx, .int .i64 sq]
  | none => .agg #[.string ⟨#[]⟩, .int .i64 0, .string ⟨#[]⟩, .int .i64 0]
def FiltPost (w : World) (nm tx : ByteArray) (sq : Int) (o : Option Int) (e : Ending) (w' : World) : Prop := e = .returned (.tuple #[recOut nm tx sq o, .bool o.isSome]) ∧ Below w.heap.size w w'
theorem splitB_le' (c : UInt8) (l : List UInt8) : ∀ t ∈ splitB c l, t.length ≤ l.length := by
  induction l with
  | nil => intro t ht; simp [splitB] at ht; subst ht; simp
  | cons b r ih =>
    intro t ht
    unfold splitB at ht
    split at ht
    · rcases List.mem_cons.1 ht with rfl | ht
      · simp
      · have := ih t ht; simp; omega
    · split at ht
      · simp at ht; subst ht; simp
      · rename_i w ws hw
        rcases List.mem_cons.1 ht with rfl | ht
        · have := ih w (by rw [hw]; simp); simp; omega
        · have := ih t (by rw [hw]; simp [ht]); simp; omega
theorem flt_kinds {f : Flt} (h : fltOk f = true) : f.k = 0 ∨ f.k = 1 ∨ f.k = 2 ∨ f.k = 3 := by
  by_cases h0 : f.k = 0
  · exact .inl h0
  by_cases h2 : f.k = 2
  · exact .inr (.inr (.inl h2))
  by_cases h13 : f.k = 1 ∨ f.k = 3
  · rcases h13 with h | h
    · exact .inr (.inl h)
    · exact .inr (.inr (.inr h))
  · rw [fltx f h0 h2 h13] at h; cases h
theorem pass0 {nm tx : List UInt8} {f : Flt} {q : Int} (h : f.k = 0) : passF nm tx f q = if belowL nm f.nm then some q else none := by simp [passF, h]
theorem pass1 {nm tx : List UInt8} {f : Flt} {q : Int} (h : f.k = 1) : passF nm tx f q = if q ≤ f.n then some q else none := by simp [passF, h]
theorem pass2 {nm tx : List UInt8} {f : Flt} {q : Int} (h : f.k = 2) : passF nm tx f q = if hasW tx f.nm then none else some q := by simp [passF, h]
theorem pass3 {nm tx : List UInt8} {f : Flt} {q : Int} (h : f.k = 3) : passF nm tx f q = some (if q < f.n then f.n else q) := by simp [passF, h]

set_option maxHeartbeats 400000 in
set_option maxRecDepth 100000 in
theorem specHasWord_c (s x : ByteArray) (w : World) (hs : s.size ≤ 1048576) :
    Calls Tryz.prog 112 #[.string s, .string x] w (BoolPost w (hasW s.data.toList x.data.toList)) := by
  have C := hid (splitAt_c s 32 w hs)
  have HL := hid (fun t ht => Nat.le_trans (splitB_le' 32 s.data.toList t ht) (show s.data.toList.length ≤ maxTxt by rw [← Lib.size_eq]; unfold maxTxt; exact hs))
  have HE := hid (show hasW s.data.toList x.data.toList = decide (x.data.toList ∈ splitB 32 s.data.toList) from rfl)
  generalize splitB 32 s.data.toList = ws at C HL HE
  generalize hasW s.data.toList x.data.toList = z at HE ⊢
  clear hs
  go_enter Tryz.func112, Tryz.ntmps112
  go_wp2_with fail
  refine C.out.mono ?_
  rintro e w1 ⟨v, rfl, ho, hb⟩
  obtain ⟨A, c, rfl, _, _⟩ := (Sl.of_own ho).form
  have CT := hid (hasText_c (.slice A ws.length c) ws.length w1.heap.size ws x w1 ⟨Sl.of_own ho, HL.out⟩)
  have HB := hid hb
  clear ho hb
  go_wp2_with fail
  refine CT.out.mono ?_
  rintro e w2 ⟨rfl, h9⟩
  obtain rfl := h9
  go_wp2_with fail
  go_ret
  exact ⟨ret_bool HE.out.symm, HB.out⟩

set_option maxHeartbeats 4000000 in
set_option maxRecDepth 100000 in
theorem specFiltered_c (v : Value) (n B : Nat) (l : List Flt) (nm tx : ByteArray) (lv sq : Int) (w : World) (hv : Fs w B n v l) (hB : B ≤ w.heap.size) (hall : l.all fltOk = true) (hnm : nm.size ≤ 1048576) (htx : tx.size ≤ 1048576) (h1 : 1 ≤ lv) (h2 : lv ≤ 60) :
    Calls Tryz.prog 74 #[v, .agg #[.string nm, .int .i64 lv, .string tx, .int .i64 sq]] w (FiltPost w nm tx sq (filtL nm.data.toList tx.data.toList l lv)) := by
  have hln := hv.len
  obtain ⟨A, c, rfl, hnc, hcm⟩ := hv.1.form
  unfold maxLen at hcm
  have HV := hid (And.intro hv hln)
  have HA := hid hall
  have CB := hid (fun (s : ByteArray) (hs : s.size ≤ 1048576) W => specBelow_c nm s W (by unfold maxLen; omega) (by unfold maxLen; omega))
  have CW := hid (fun (s : ByteArray) W => specHasWord_c tx s W htx)
  have HB0 := hid (show Below w.heap.size w ((w.alloc (.cells #[.string nm, .int .i64 lv, .string tx, .int .i64 sq] 61)).alloc (.cells #[.string ⟨#[]⟩, .int .i64 0, .string ⟨#[]⟩, .int .i64 0] 61)) by go_grown)
  have HK0 := hid ((Blk.new w #[.string nm, .int .i64 lv, .string tx, .int .i64 sq] 61).alloc (.cells #[.string ⟨#[]⟩, .int .i64 0, .string ⟨#[]⟩, .int .i64 0] 61))
  have HZ0 := hid (Blk.new (w.alloc (.cells #[.string nm, .int .i64 lv, .string tx, .int .i64 sq] 61)) #[.string ⟨#[]⟩, .int .i64 0, .string ⟨#[]⟩, .int .i64 0] 61)
  simp only [World.size_alloc] at HZ0
  clear hv hln hall
  go_enter Tryz.func74, Tryz.ntmps74
  go_wp2_with fail
  go_loopw [6, 8] (fun iv pv wr => ∃ (k : Nat) (q : Int), iv = .int .i64 k ∧ k ≤ n ∧ 1 ≤ q ∧ q ≤ 60 ∧ Hid (filtL nm.data.toList tx.data.toList (l.take k) lv = some q) ∧ Hid (Below w.heap.size w wr) ∧ Hid (Blk wr w.heap.size [.string nm, .int .i64 q, .string tx, .int .i64 sq]) ∧ Hid (Blk wr (w.heap.size + 1) [.string ⟨#[]⟩, .int .i64 0, .string ⟨#[]⟩, .int .i64 0])) (fun iv pv _ => n - (intOf iv).toNat)
  case atStart => exact ⟨0, lv, rfl, by omega, h1, h2, rfl, HB0.out, HK0.out, HZ0.out⟩
  case round =>
    obtain ⟨k, q, rfl, hk, hq1, hq2, HQ, HB, HK, HZ⟩ := hrel
    by_cases hlt : k < n
    · obtain ⟨b, o, f, s, rfl, hbB, hf, hs, hfe, g0, g1, g2⟩ := HV.out.1.at_ hlt
      have c0 : wr.cell? ⟨b, o + k * 3, none⟩ = some (.int .i64 f.k) := (HB.out.cell (p := ⟨b, o + k * 3, none⟩) (by show b < _; omega)).trans g0
      have c1 : wr.cell? ⟨b, o + k * 3 + 1, none⟩ = some (.string s) := (HB.out.cell (p := ⟨b, o + k * 3 + 1, none⟩) (by show b < _; omega)).trans g1
      have c2 : wr.cell? ⟨b, o + k * 3 + 2, none⟩ = some (.int .i64 f.n) := (HB.out.cell (p := ⟨b, o + k * 3 + 2, none⟩) (by show b < _; omega)).trans g2
      have hfk := flt_kinds (List.all_eq_true.1 HA.out f (List.mem_of_getElem? hf))
      have HX := hid (filtL_step hf HQ.out)
      have HD := hid (fun (h : passF nm.data.toList tx.data.toList f q = none) => filtL_dead (HX.out.trans h))
      have hnn : f.nm = s.data.toList := by rw [hfe]
      have hrng := fun (q' : Int) (h : passF nm.data.toList tx.data.toList f q = some q') => passF_range (List.all_eq_true.1 HA.out f (List.mem_of_getElem? hf)) hq1 hq2 h
      have HRG := hid hrng
      have hsz := HK.out.1
      have hsz1 := HZ.out.1
      have hbw : b < w.heap.size := by omega
      obtain ⟨e0, x0⟩ := HK.out.2 0 _ rfl
      obtain ⟨e1, x1⟩ := HK.out.2 1 _ rfl
      obtain ⟨e2, x2⟩ := HK.out.2 2 _ rfl
      obtain ⟨e3, x3⟩ := HK.out.2 3 _ rfl
      have HNN := hid hnn
      generalize hkk : f.k = kk at *
      generalize hfn : f.n = fn at *
      have HKK := hid hkk
      have HFN := hid hfn
      clear hf hfe g0 g1 g2 hnn hkk hfn hrng
      rcases hfk with rfl | hfk
      · skip
        have HB1 := hid (HB.out.alloc (Nat.le_of_lt hsz) (.cells #[.int .i64 0, .string s, .int .i64 fn] 162))
        have HK1 := hid (HK.out.alloc (.cells #[.int .i64 0, .string s, .int .i64 fn] 162))
        have HZ1 := hid (HZ.out.alloc (.cells #[.int .i64 0, .string s, .int .i64 fn] 162))
        have CC := hid (CB.out s hs)
        have HP := hid (pass0 (nm := nm.data.toList) (tx := tx.data.toList) (f := f) (q := q) HKK.out)
        rw [HNN.out] at HP
        cases hz : belowL nm.data.toList s.data.toList with
        | true =>
          rw [hz] at CC HP
          clear hz
          go_wp2_with fail
          refine (CC.out _).mono ?_
          rintro e w2 ⟨rfl, h9⟩
          obtain rfl := h9
          go_wp2_with fail
          go_roundw
          case rel => exact ⟨k + 1, q, by go_num, by omega, (HRG.out _ (HP.out)).1, (HRG.out _ (HP.out)).2, HX.out.trans (HP.out), HB1.out, HK1.out, HZ1.out⟩
          case measure => simp [intOf]; omega
        | false =>
          rw [hz] at CC HP
          clear hz
          go_wp2_with fail
          refine (CC.out _).mono ?_
          rintro e w2 ⟨rfl, h9⟩
          obtain rfl := h9
          obtain ⟨r0, y0⟩ := HZ.out.2 0 _ rfl
          obtain ⟨r1, y1⟩ := HZ.out.2 1 _ rfl
          obtain ⟨r2, y2⟩ := HZ.out.2 2 _ rfl
          obtain ⟨r3, y3⟩ := HZ.out.2 3 _ rfl
          go_wp2_with fail
          have RB := (((((HZ.out.set 0 (.string ⟨#[]⟩)).set 1 (.int .i64 0)).set 2 (.string ⟨#[]⟩)).set 3 (.int .i64 0))).alloc (.cells #[.int .i64 0, .string s, .int .i64 fn] 162)
          have f0 := (RB.2 0 _ rfl).1
          have f1 := (RB.2 1 _ rfl).1
          have f2 := (RB.2 2 _ rfl).1
          have f3 := (RB.2 3 _ rfl).1
          refine bodyPost_ret (v := .tuple #[.agg #[.string ⟨#[]⟩, .int .i64 0, .string ⟨#[]⟩, .int .i64 0], .bool false]) (by simp [results, Tryz.results74, go_sem, f0, f1, f2, f3]) rfl ?_
          rw [HD.out (HP.out)]
          refine ⟨rfl, ?_⟩
          refine Below.alloc ?_ (by simpa using Nat.le_of_lt hsz) _
          iterate 4 refine Below.setCell ?_ (by simp) _
          exact HB.out
      rcases hfk with rfl | hfk
      · skip
        have HB1 := hid (HB.out.alloc (Nat.le_of_lt hsz) (.cells #[.int .i64 1, .string s, .int .i64 fn] 162))
        have HK1 := hid (HK.out.alloc (.cells #[.int .i64 1, .string s, .int .i64 fn] 162))
        have HZ1 := hid (HZ.out.alloc (.cells #[.int .i64 1, .string s, .int .i64 fn] 162))
        have HP := hid (pass1 (nm := nm.data.toList) (tx := tx.data.toList) (f := f) (q := q) HKK.out)
        rw [HFN.out] at HP
        by_cases hz : q ≤ fn
        · rw [if_pos hz] at HP
          go_wp2_with fail
          go_roundw
          case rel => exact ⟨k + 1, q, by go_num, by omega, (HRG.out _ (HP.out)).1, (HRG.out _ (HP.out)).2, HX.out.trans (HP.out), HB1.out, HK1.out, HZ1.out⟩
          case measure => simp [intOf]; omega
        · rw [if_neg hz] at HP
          obtain ⟨r0, y0⟩ := HZ.out.2 0 _ rfl
          obtain ⟨r1, y1⟩ := HZ.out.2 1 _ rfl
          obtain ⟨r2, y2⟩ := HZ.out.2 2 _ rfl
          obtain ⟨r3, y3⟩ := HZ.out.2 3 _ rfl
          go_wp2_with fail
          have RB := (((((HZ.out.set 0 (.string ⟨#[]⟩)).set 1 (.int .i64 0)).set 2 (.string ⟨#[]⟩)).set 3 (.int .i64 0))).alloc (.cells #[.int .i64 1, .string s, .int .i64 fn] 162)
          have f0 := (RB.2 0 _ rfl).1
          have f1 := (RB.2 1 _ rfl).1
          have f2 := (RB.2 2 _ rfl).1
          have f3 := (RB.2 3 _ rfl).1
          refine bodyPost_ret (v := .tuple #[.agg #[.string ⟨#[]⟩, .int .i64 0, .string ⟨#[]⟩, .int .i64 0], .bool false]) (by simp [results, Tryz.results74, go_sem, f0, f1, f2, f3]) rfl ?_
          rw [HD.out (HP.out)]
          refine ⟨rfl, ?_⟩
          refine Below.alloc ?_ (by simpa using Nat.le_of_lt hsz) _
          iterate 4 refine Below.setCell ?_ (by simp) _
          exact HB.out
      rcases hfk with rfl | rfl
      · skip
        have HB1 := hid (HB.out.alloc (Nat.le_of_lt hsz) (.cells #[.int .i64 2, .string s, .int .i64 fn] 162))
        have HK1 := hid (HK.out.alloc (.cells #[.int .i64 2, .string s, .int .i64 fn] 162))
        have HZ1 := hid (HZ.out.alloc (.cells #[.int .i64 2, .string s, .int .i64 fn] 162))
        have CC := hid (CW.out s)
        have HP := hid (pass2 (nm := nm.data.toList) (tx := tx.data.toList) (f := f) (q := q) HKK.out)
        rw [HNN.out] at HP
        cases hz : hasW tx.data.toList s.data.toList with
        | false =>
          rw [hz] at CC HP
          clear hz
          go_wp2_with fail
          refine (CC.out _).mono ?_
          rintro e w2 ⟨rfl, hb⟩
          have HB2 := hid (HB1.out.trans (hb.mono HB1.out.size))
          have HK2 := hid (HK1.out.to hb)
          have HZ2 := hid (HZ1.out.to hb)
          clear hb e0 e1 e2 e3 x0 x1 x2 x3 c0 c1 c2
          go_wp2_with fail
          go_roundw
          case rel => exact ⟨k + 1, q, by go_num, by omega, (HRG.out _ (HP.out)).1, (HRG.out _ (HP.out)).2, HX.out.trans (HP.out), HB2.out, HK2.out, HZ2.out⟩
          case measure => simp [intOf]; omega
        | true =>
          rw [hz] at CC HP
          clear hz
          go_wp2_with fail
          refine (CC.out _).mono ?_
          rintro e w2 ⟨rfl, hb⟩
          have HB2 := hid (HB1.out.trans (hb.mono HB1.out.size))
          have HK2 := hid (HK1.out.to hb)
          have HZ2 := hid (HZ1.out.to hb)
          clear hb e0 e1 e2 e3 x0 x1 x2 x3 c0 c1 c2
          obtain ⟨r0, y0⟩ := HZ2.out.2 0 _ rfl
          obtain ⟨r1, y1⟩ := HZ2.out.2 1 _ rfl
          obtain ⟨r2, y2⟩ := HZ2.out.2 2 _ rfl
          obtain ⟨r3, y3⟩ := HZ2.out.2 3 _ rfl
          go_wp2_with fail
          have RB := ((((HZ2.out.set 0 (.string ⟨#[]⟩)).set 1 (.int .i64 0)).set 2 (.string ⟨#[]⟩)).set 3 (.int .i64 0))
          have f0 := (RB.2 0 _ rfl).1
          have f1 := (RB.2 1 _ rfl).1
          have f2 := (RB.2 2 _ rfl).1
          have f3 := (RB.2 3 _ rfl).1
          refine bodyPost_ret (v := .tuple #[.agg #[.string ⟨#[]⟩, .int .i64 0, .string ⟨#[]⟩, .int .i64 0], .bool false]) (by simp [results, Tryz.results74, go_sem, f0, f1, f2, f3]) rfl ?_
          rw [HD.out (HP.out)]
          refine ⟨rfl, ?_⟩
          iterate 4 refine Below.setCell ?_ (by simp) _
          exact HB2.out
      · skip
        have HB1 := hid (HB.out.alloc (Nat.le_of_lt hsz) (.cells #[.int .i64 3, .string s, .int .i64 fn] 162))
        have HK1 := hid (HK.out.alloc (.cells #[.int .i64 3, .string s, .int .i64 fn] 162))
        have HZ1 := hid (HZ.out.alloc (.cells #[.int .i64 3, .string s, .int .i64 fn] 162))
        have HP := hid (pass3 (nm := nm.data.toList) (tx := tx.data.toList) (f := f) (q := q) HKK.out)
        rw [HFN.out] at HP
        generalize hmx : (if q < fn then fn else q) = mx at HP
        have HMX := hid hmx
        clear hmx
        go_wp2_with fail
        first | rw [HMX.out] | rw [show max q fn = mx by rw [← HMX.out]; split <;> omega]
        have HB2 := hid ((HB.out.setCell (p := ⟨w.heap.size, 1, none⟩) (Nat.le_refl _) (.int .i64 mx)).alloc (by simpa using Nat.le_of_lt hsz) (.cells #[.int .i64 3, .string s, .int .i64 fn] 162))
        have HK2 := hid ((HK.out.set 1 (.int .i64 mx)).alloc (.cells #[.int .i64 3, .string s, .int .i64 fn] 162))
        have HZ2 := hid ((HZ.out.apart ⟨w.heap.size, 1, none⟩ (.int .i64 mx) (by simp)).alloc (.cells #[.int .i64 3, .string s, .int .i64 fn] 162))
        go_roundw
        case rel => exact ⟨k + 1, mx, by go_num, by omega, (HRG.out _ (HP.out)).1, (HRG.out _ (HP.out)).2, HX.out.trans (HP.out), HB2.out, HK2.out, HZ2.out⟩
        case measure => simp [intOf]; omega
    · have HE := hid (show filtL nm.data.toList tx.data.toList l lv = some q by
        have h9 := HQ.out
        rwa [List.take_of_length_le (by have := HV.out.2; omega)] at h9)
      obtain ⟨e0, x0⟩ := HK.out.2 0 _ rfl
      obtain ⟨e1, x1⟩ := HK.out.2 1 _ rfl
      obtain ⟨e2, x2⟩ := HK.out.2 2 _ rfl
      obtain ⟨e3, x3⟩ := HK.out.2 3 _ rfl
      obtain ⟨r0, y0⟩ := HZ.out.2 0 _ rfl
      obtain ⟨r1, y1⟩ := HZ.out.2 1 _ rfl
      obtain ⟨r2, y2⟩ := HZ.out.2 2 _ rfl
      obtain ⟨r3, y3⟩ := HZ.out.2 3 _ rfl
      go_wp2_with fail
      have RB := (((HZ.out.set 0 (.string nm)).set 1 (.int .i64 q)).set 2 (.string tx)).set 3 (.int .i64 sq)
      have f0 := (RB.2 0 _ rfl).1
      have f1 := (RB.2 1 _ rfl).1
      have f2 := (RB.2 2 _ rfl).1
      have f3 := (RB.2 3 _ rfl).1
      refine bodyPost_ret (v := .tuple #[.agg #[.string nm, .int .i64 q, .string tx, .int .i64 sq], .bool true]) (by simp [results, Tryz.results74, go_sem, f0, f1, f2, f3]) rfl ?_
      rw [HE.out]
      refine ⟨rfl, ?_⟩
      iterate 4 refine Below.setCell ?_ (by simp) _
      exact HB.out
end Go.Proofs.YtlifaeleoiodkaaGreatDoor

/-
  FILTERS ASKED: FilterRecord of both. By gen_fr.py.
-/
namespace Go.Proofs.YtlifaeleoiodkaaGreatDoor
open Go.RowKit Go.Proofs.YtlifaeleoiodkaaGreatDoor.Nm
set_option linter.unusedSimpArgs false
set_option linter.unusedVariables false

def fX (l : List Flt) (nm tx : ByteArray) (lv sq : Int) : Option Int := if filtersOk l && recOk ⟨nm.data.toList, lv, tx.data.toList, sq⟩ then filtL nm.data.toList tx.data.toList l lv else none
theorem rec_range {nm tx : List UInt8} {lv sq : Int} (h : recOk ⟨nm, lv, tx, sq⟩ = true) : 1 ≤ lv ∧ lv ≤ 60 := by
  unfold recOk at h; simp only [Bool.and_eq_true, decide_eq_true_eq] at h; omega
theorem flts_all {l : List Flt} (h : filtersOk l = true) : l.all fltOk = true := by
  unfold filtersOk at h; rw [Bool.and_eq_true] at h; exact h.1
theorem Tryz.gateOf0 (v : Value) (xT : TypeId) (w : World) : (Instr.typeAssert (.iface 209 v) xT 201 true).run Tryz.prog w = .ok (.tuple #[.iface 209 v, .bool true]) w := run_typeAssert_hasB Tryz.underlying201 (by kernel_rfl) v xT w
theorem Tryz.gateOf1 (v : Value) (xT : TypeId) (w : World) : (Instr.typeAssert (.iface 210 v) xT 201 true).run Tryz.prog w = .ok (.tuple #[.iface 210 v, .bool true]) w := run_typeAssert_hasB Tryz.underlying201 (by kernel_rfl) v xT w
theorem Tryz.gateOf2 (v : Value) (xT : TypeId) (w : World) : (Instr.typeAssert (.iface 212 v) xT 201 true).run Tryz.prog w = .ok (.tuple #[.iface 212 v, .bool true]) w := run_typeAssert_hasB Tryz.underlying201 (by kernel_rfl) v xT w
theorem Tryz.gateOf3 (v : Value) (xT : TypeId) (w : World) : (Instr.typeAssert (.iface 203 v) xT 201 true).run Tryz.prog w = .ok (.tuple #[.nilIface, .bool false]) w := run_typeAssert_lacksB Tryz.underlying201 (by kernel_rfl) (by kernel_rfl) v xT w
theorem Tryz.gateOf4 (v : Value) (xT : TypeId) (w : World) : (Instr.typeAssert (.iface 203 v) xT 203 true).run Tryz.prog w = .ok (.tuple #[v, .bool true]) w := by kernel_rfl
theorem Tryz.lets0 (x y : Value) (w : World) : (invoke (.fn (.method "loop.example/loggertree/impl.lets") #[]) #[.iface 209 x, y]).run Tryz.prog w = .ok (.enter 190 #[x, y]) w := by kernel_rfl
theorem Tryz.lets1 (x y : Value) (w : World) : (invoke (.fn (.method "loop.example/loggertree/impl.lets") #[]) #[.iface 210 x, y]).run Tryz.prog w = .ok (.enter 191 #[x, y]) w := by kernel_rfl
theorem Tryz.lets2 (x y : Value) (w : World) : (invoke (.fn (.method "loop.example/loggertree/impl.lets") #[]) #[.iface 212 x, y]).run Tryz.prog w = .ok (.enter 192 #[x, y]) w := by kernel_rfl

set_option maxHeartbeats 4000000 in
set_option maxRecDepth 100000 in
theorem implFilterRecord_c (v : Value) (n B : Nat) (l : List Flt) (nm tx : ByteArray) (lv sq : Int) (w : World) (hv : Fs w B n v l) (hB : B ≤ w.heap.size) (hnm : nm.size ≤ 1048576) (htx : tx.size ≤ 1048576) :
    Calls Tryz.prog 139 #[v, .agg #[.string nm, .int .i64 lv, .string tx, .int .i64 sq]] w (FiltPost w nm tx sq (fX l nm tx lv sq)) := by
  have hln := hv.len
  obtain ⟨A, c, rfl, hnc, hcm⟩ := hv.1.form
  unfold maxLen at hcm
  have HB0 := hid (show Below w.heap.size w ((w.alloc (.cells #[.string nm, .int .i64 lv, .string tx, .int .i64 sq] 61)).alloc (.cells #[.string ⟨#[]⟩, .int .i64 0, .string ⟨#[]⟩, .int .i64 0] 61)) by go_grown)
  have HK0 := hid ((Blk.new w #[.string nm, .int .i64 lv, .string tx, .int .i64 sq] 61).alloc (.cells #[.string ⟨#[]⟩, .int .i64 0, .string ⟨#[]⟩, .int .i64 0] 61))
  have HZ0 := hid (Blk.new (w.alloc (.cells #[.string nm, .int .i64 lv, .string tx, .int .i64 sq] 61)) #[.string ⟨#[]⟩, .int .i64 0, .string ⟨#[]⟩, .int .i64 0] 61)
  simp only [World.size_alloc] at HZ0
  have HV := hid (And.intro hv hln)
  have CF := hid (fun (W : World) (hW : Below w.heap.size w W) => implValidFilters_c (.slice A n c) n B l W ⟨hv.1.below hW hB, hv.2⟩ (Nat.le_trans hB hW.size))
  have CR := hid (fun (W : World) => implValidRecord_c nm tx lv sq W hnm htx)
  cases hz : filtersOk l with
  | false =>
    rw [hz] at CF
    clear hv hln CR
    have HH := hid hz
    clear hz
    go_enter Tryz.func139, Tryz.ntmps139
    go_wp2_with fail
    refine (CF.out _ HB0.out).mono ?_
    rintro e w1 ⟨rfl, hb⟩
    have HB1 := hid (HB0.out.trans (hb.mono HB0.out.size))
    have HZ1 := hid (HZ0.out.to hb)
    clear hb
    have HE := hid (show fX l nm tx lv sq = none by unfold fX; rw [HH.out]; simp)
    obtain ⟨r0, y0⟩ := HZ1.out.2 0 _ rfl
    obtain ⟨r1, y1⟩ := HZ1.out.2 1 _ rfl
    obtain ⟨r2, y2⟩ := HZ1.out.2 2 _ rfl
    obtain ⟨r3, y3⟩ := HZ1.out.2 3 _ rfl
    go_wp2_with fail
    have RB := (((HZ1.out.set 0 (.string ⟨#[]⟩)).set 1 (.int .i64 0)).set 2 (.string ⟨#[]⟩)).set 3 (.int .i64 0)
    have f0 := (RB.2 0 _ rfl).1
    have f1 := (RB.2 1 _ rfl).1
    have f2 := (RB.2 2 _ rfl).1
    have f3 := (RB.2 3 _ rfl).1
    refine bodyPost_ret (v := .tuple #[.agg #[.string ⟨#[]⟩, .int .i64 0, .string ⟨#[]⟩, .int .i64 0], .bool false]) (by simp [results, Tryz.results139, go_sem, f0, f1, f2, f3]) rfl ?_
    rw [HE.out]
    refine ⟨rfl, ?_⟩
    iterate 4 refine Below.setCell ?_ (by simp) _
    exact HB1.out
  | true =>
    rw [hz] at CF
    have HA := hid (flts_all hz)
    have HH := hid hz
    clear hz
    cases hr : recOk ⟨nm.data.toList, lv, tx.data.toList, sq⟩ with
    | false =>
      rw [hr] at CR
      have HR := hid hr
      clear hr
      clear hv hln
      go_enter Tryz.func139, Tryz.ntmps139
      go_wp2_with fail
      refine (CF.out _ HB0.out).mono ?_
      rintro e w1 ⟨rfl, hb⟩
      have HB1 := hid (HB0.out.trans (hb.mono HB0.out.size))
      have HK1 := hid (HK0.out.to hb)
      have HZ1 := hid (HZ0.out.to hb)
      clear hb
      have d0 := (HK1.out.2 0 _ rfl).1
      have d1 := (HK1.out.2 1 _ rfl).1
      have d2 := (HK1.out.2 2 _ rfl).1
      have d3 := (HK1.out.2 3 _ rfl).1
      go_wp2_with fail
      refine (CR.out _).mono ?_
      rintro e w2 ⟨rfl, hb⟩
      have HB2 := hid (HB1.out.trans (hb.mono HB1.out.size))
      have HK2 := hid (HK1.out.to hb)
      have HZ2 := hid (HZ1.out.to hb)
      clear hb d0 d1 d2 d3
      have HE := hid (show fX l nm tx lv sq = none by unfold fX; rw [HR.out]; simp)
      obtain ⟨r0, y0⟩ := HZ2.out.2 0 _ rfl
      obtain ⟨r1, y1⟩ := HZ2.out.2 1 _ rfl
      obtain ⟨r2, y2⟩ := HZ2.out.2 2 _ rfl
      obtain ⟨r3, y3⟩ := HZ2.out.2 3 _ rfl
      go_wp2_with fail
      have RB := (((HZ2.out.set 0 (.string ⟨#[]⟩)).set 1 (.int .i64 0)).set 2 (.string ⟨#[]⟩)).set 3 (.int .i64 0)
      have f0 := (RB.2 0 _ rfl).1
      have f1 := (RB.2 1 _ rfl).1
      have f2 := (RB.2 2 _ rfl).1
      have f3 := (RB.2 3 _ rfl).1
      refine bodyPost_ret (v := .tuple #[.agg #[.string ⟨#[]⟩, .int .i64 0, .string ⟨#[]⟩, .int .i64 0], .bool false]) (by simp [results, Tryz.results139, go_sem, f0, f1, f2, f3]) rfl ?_
      rw [HE.out]
      refine ⟨rfl, ?_⟩
      iterate 4 refine Below.setCell ?_ (by simp) _
      exact HB2.out
    | true =>
      rw [hr] at CR
      have HR := hid hr
      obtain ⟨h1, h2⟩ := rec_range hr
      clear hr
      have ta0 := Tryz.gateOf0
      have ta1 := Tryz.gateOf1
      have ta2 := Tryz.gateOf2
      have ta3 := Tryz.gateOf3
      have ta4 := Tryz.gateOf4
      have iv0 := Tryz.lets0
      have iv1 := Tryz.lets1
      have iv2 := Tryz.lets2
      have HE0 := hid (show fX l nm tx lv sq = filtL nm.data.toList tx.data.toList l lv by unfold fX; rw [HH.out, HR.out]; rfl)
      rw [HE0.out]
      clear hv hln
      go_enter Tryz.func139, Tryz.ntmps139
      go_wp2_with fail
      refine (CF.out _ HB0.out).mono ?_
      rintro e w1 ⟨rfl, hb⟩
      have HB1 := hid (HB0.out.trans (hb.mono HB0.out.size))
      have HK1 := hid (HK0.out.to hb)
      have HZ1 := hid (HZ0.out.to hb)
      clear hb
      have d0 := (HK1.out.2 0 _ rfl).1
      have d1 := (HK1.out.2 1 _ rfl).1
      have d2 := (HK1.out.2 2 _ rfl).1
      have d3 := (HK1.out.2 3 _ rfl).1
      go_wp2_with fail
      refine (CR.out _).mono ?_
      rintro e w2 ⟨rfl, hb⟩
      have HB2 := hid (HB1.out.trans (hb.mono HB1.out.size))
      have HK2 := hid (HK1.out.to hb)
      have HZ2 := hid (HZ1.out.to hb)
      clear hb d0 d1 d2 d3
      have d0 := (HK2.out.2 0 _ rfl).1
      have d1 := (HK2.out.2 1 _ rfl).1
      have d2 := (HK2.out.2 2 _ rfl).1
      have d3 := (HK2.out.2 3 _ rfl).1
      go_wp2_with fail
      clear d0 d1 d2 d3 HB0 HK0 HZ0 HB1 HK1 HZ1
      have HB0 := HB2
      have HK0 := HK2
      have HZ0 := HZ2
      clear HB2 HK2 HZ2
      go_loopw [8, 21] (fun xv iv wr => ∃ (k : Nat) (q : Int), iv = .int .i64 k ∧ k ≤ n ∧ 1 ≤ q ∧ q ≤ 60 ∧ Hid (filtL nm.data.toList tx.data.toList (l.take k) lv = some q) ∧ Hid (Below w.heap.size w wr) ∧ Hid (Blk wr w.heap.size [.string nm, .int .i64 q, .string tx, .int .i64 sq]) ∧ Hid (Blk wr (w.heap.size + 1) [.string ⟨#[]⟩, .int .i64 0, .string ⟨#[]⟩, .int .i64 0])) (fun xv iv _ => n - (intOf iv).toNat)
      case atStart => exact ⟨0, lv, rfl, by omega, h1, h2, rfl, HB0.out, HK0.out, HZ0.out⟩
      case round =>
        obtain ⟨k, q, rfl, hk, hq1, hq2, HQ, HB, HK, HZ⟩ := hrel
        by_cases hlt : k < n
        · obtain ⟨b, o, f, s, rfl, hbB, hf, hs, hfe, g0, g1, g2⟩ := HV.out.1.at_ hlt
          have c0 : wr.cell? ⟨b, o + k * 3, none⟩ = some (.int .i64 f.k) := (HB.out.cell (p := ⟨b, o + k * 3, none⟩) (by show b < _; omega)).trans g0
          have c1 : wr.cell? ⟨b, o + k * 3 + 1, none⟩ = some (.string s) := (HB.out.cell (p := ⟨b, o + k * 3 + 1, none⟩) (by show b < _; omega)).trans g1
          have c2 : wr.cell? ⟨b, o + k * 3 + 2, none⟩ = some (.int .i64 f.n) := (HB.out.cell (p := ⟨b, o + k * 3 + 2, none⟩) (by show b < _; omega)).trans g2
          have hfk := flt_kinds (List.all_eq_true.1 HA.out f (List.mem_of_getElem? hf))
          have HX := hid (filtL_step hf HQ.out)
          have HD := hid (fun (h : passF nm.data.toList tx.data.toList f q = none) => filtL_dead (HX.out.trans h))
          have hnn : f.nm = s.data.toList := by rw [hfe]
          have hrng := fun (q' : Int) (h : passF nm.data.toList tx.data.toList f q = some q') => passF_range (List.all_eq_true.1 HA.out f (List.mem_of_getElem? hf)) hq1 hq2 h
          have HRG := hid hrng
          have hsz := HK.out.1
          have hsz1 := HZ.out.1
          have hbw : b < w.heap.size := by omega
          obtain ⟨e0, x0⟩ := HK.out.2 0 _ rfl
          obtain ⟨e1, x1⟩ := HK.out.2 1 _ rfl
          obtain ⟨e2, x2⟩ := HK.out.2 2 _ rfl
          obtain ⟨e3, x3⟩ := HK.out.2 3 _ rfl
          have HNN := hid hnn
          generalize hkk : f.k = kk at *
          generalize hfn : f.n = fn at *
          have HKK := hid hkk
          have HFN := hid hfn
          clear hf hfe g0 g1 g2 hnn hkk hfn hrng
          rcases hfk with rfl | hfk
          · skip
            have HB1 := hid (HB.out.alloc (Nat.le_of_lt hsz) (.cells #[.int .i64 0, .string s, .int .i64 fn] 162))
            have HK1 := hid (HK.out.alloc (.cells #[.int .i64 0, .string s, .int .i64 fn] 162))
            have HZ1 := hid (HZ.out.alloc (.cells #[.int .i64 0, .string s, .int .i64 fn] 162))
            go_wp2_with fail
            refine (filterOf0_c s fn _).mono ?_
            rintro e w3 ⟨rfl, hb⟩
            have HB2 := hid (HB1.out.trans (hb.mono HB1.out.size))
            have HK2 := hid (HK1.out.to hb)
            have HZ2 := hid (HZ1.out.to hb)
            clear hb e0 e1 e2 e3 x0 x1 x2 x3 c0 c1 c2 HB1 HK1 HZ1
            obtain ⟨e0, x0⟩ := HK2.out.2 0 _ rfl
            obtain ⟨e1, x1⟩ := HK2.out.2 1 _ rfl
            obtain ⟨e2, x2⟩ := HK2.out.2 2 _ rfl
            obtain ⟨e3, x3⟩ := HK2.out.2 3 _ rfl
            unfold gateB
            have hsz3 := HK2.out.1
            have CL := hid (fun W => branchLets_c s nm tx q sq W hnm hs)
            have HP := hid (pass0 (nm := nm.data.toList) (tx := tx.data.toList) (f := f) (q := q) HKK.out)
            rw [HNN.out] at HP
            cases hz : belowL nm.data.toList s.data.toList with
            | true =>
              rw [hz] at CL HP
              clear hz
              go_wp2_with fail
              refine (CL.out _).mono ?_
              rintro e w4 ⟨rfl, hb⟩
              have HB4 := hid (HB2.out.trans (hb.mono HB2.out.size))
              have HK4 := hid (HK2.out.to hb)
              have HZ4 := hid (HZ2.out.to hb)
              clear hb e0 e1 e2 e3 x0 x1 x2 x3
              go_wp2_with fail
              go_roundw
              case rel => exact ⟨k + 1, q, by go_num, by omega, (HRG.out _ (HP.out)).1, (HRG.out _ (HP.out)).2, HX.out.trans (HP.out), HB4.out, HK4.out, HZ4.out⟩
              case measure => simp [intOf]; omega
            | false =>
              rw [hz] at CL HP
              clear hz
              go_wp2_with fail
              refine (CL.out _).mono ?_
              rintro e w4 ⟨rfl, hb⟩
              have HB4 := hid (HB2.out.trans (hb.mono HB2.out.size))
              have HK4 := hid (HK2.out.to hb)
              have HZ4 := hid (HZ2.out.to hb)
              clear hb e0 e1 e2 e3 x0 x1 x2 x3
              obtain ⟨r0, y0⟩ := HZ4.out.2 0 _ rfl
              obtain ⟨r1, y1⟩ := HZ4.out.2 1 _ rfl
              obtain ⟨r2, y2⟩ := HZ4.out.2 2 _ rfl
              obtain ⟨r3, y3⟩ := HZ4.out.2 3 _ rfl
              go_wp2_with fail
              have RB := ((((HZ4.out.set 0 (.string ⟨#[]⟩)).set 1 (.int .i64 0)).set 2 (.string ⟨#[]⟩)).set 3 (.int .i64 0))
              have f0 := (RB.2 0 _ rfl).1
              have f1 := (RB.2 1 _ rfl).1
              have f2 := (RB.2 2 _ rfl).1
              have f3 := (RB.2 3 _ rfl).1
              refine bodyPost_ret (v := .tuple #[.agg #[.string ⟨#[]⟩, .int .i64 0, .string ⟨#[]⟩, .int .i64 0], .bool false]) (by simp [results, Tryz.results139, go_sem, f0, f1, f2, f3]) rfl ?_
              rw [HD.out (HP.out)]
              refine ⟨rfl, ?_⟩
              iterate 4 refine Below.setCell ?_ (by simp) _
              exact HB4.out
          rcases hfk with rfl | hfk
          · skip
            have HB1 := hid (HB.out.alloc (Nat.le_of_lt hsz) (.cells #[.int .i64 1, .string s, .int .i64 fn] 162))
            have HK1 := hid (HK.out.alloc (.cells #[.int .i64 1, .string s, .int .i64 fn] 162))
            have HZ1 := hid (HZ.out.alloc (.cells #[.int .i64 1, .string s, .int .i64 fn] 162))
            go_wp2_with fail
            refine (filterOf1_c s fn _).mono ?_
            rintro e w3 ⟨rfl, hb⟩
            have HB2 := hid (HB1.out.trans (hb.mono HB1.out.size))
            have HK2 := hid (HK1.out.to hb)
            have HZ2 := hid (HZ1.out.to hb)
            clear hb e0 e1 e2 e3 x0 x1 x2 x3 c0 c1 c2 HB1 HK1 HZ1
            obtain ⟨e0, x0⟩ := HK2.out.2 0 _ rfl
            obtain ⟨e1, x1⟩ := HK2.out.2 1 _ rfl
            obtain ⟨e2, x2⟩ := HK2.out.2 2 _ rfl
            obtain ⟨e3, x3⟩ := HK2.out.2 3 _ rfl
            unfold gateM
            have hsz3 := HK2.out.1
            have CL := hid (fun W => mostLets_c fn nm tx q sq W)
            have HP := hid (pass1 (nm := nm.data.toList) (tx := tx.data.toList) (f := f) (q := q) HKK.out)
            rw [HFN.out] at HP
            cases hz : decide (q ≤ fn) with
            | true =>
              rw [hz] at CL
              rw [if_pos (of_decide_eq_true hz)] at HP
              clear hz
              go_wp2_with fail
              refine (CL.out _).mono ?_
              rintro e w4 ⟨rfl, hb⟩
              have HB4 := hid (HB2.out.trans (hb.mono HB2.out.size))
              have HK4 := hid (HK2.out.to hb)
              have HZ4 := hid (HZ2.out.to hb)
              clear hb e0 e1 e2 e3 x0 x1 x2 x3
              go_wp2_with fail
              go_roundw
              case rel => exact ⟨k + 1, q, by go_num, by omega, (HRG.out _ (HP.out)).1, (HRG.out _ (HP.out)).2, HX.out.trans (HP.out), HB4.out, HK4.out, HZ4.out⟩
              case measure => simp [intOf]; omega
            | false =>
              rw [hz] at CL
              rw [if_neg (of_decide_eq_false hz)] at HP
              clear hz
              go_wp2_with fail
              refine (CL.out _).mono ?_
              rintro e w4 ⟨rfl, hb⟩
              have HB4 := hid (HB2.out.trans (hb.mono HB2.out.size))
              have HK4 := hid (HK2.out.to hb)
              have HZ4 := hid (HZ2.out.to hb)
              clear hb e0 e1 e2 e3 x0 x1 x2 x3
              obtain ⟨r0, y0⟩ := HZ4.out.2 0 _ rfl
              obtain ⟨r1, y1⟩ := HZ4.out.2 1 _ rfl
              obtain ⟨r2, y2⟩ := HZ4.out.2 2 _ rfl
              obtain ⟨r3, y3⟩ := HZ4.out.2 3 _ rfl
              go_wp2_with fail
              have RB := ((((HZ4.out.set 0 (.string ⟨#[]⟩)).set 1 (.int .i64 0)).set 2 (.string ⟨#[]⟩)).set 3 (.int .i64 0))
              have f0 := (RB.2 0 _ rfl).1
              have f1 := (RB.2 1 _ rfl).1
              have f2 := (RB.2 2 _ rfl).1
              have f3 := (RB.2 3 _ rfl).1
              refine bodyPost_ret (v := .tuple #[.agg #[.string ⟨#[]⟩, .int .i64 0, .string ⟨#[]⟩, .int .i64 0], .bool false]) (by simp [results, Tryz.results139, go_sem, f0, f1, f2, f3]) rfl ?_
              rw [HD.out (HP.out)]
              refine ⟨rfl, ?_⟩
              iterate 4 refine Below.setCell ?_ (by simp) _
              exact HB4.out
          rcases hfk with rfl | rfl
          · skip
            have HB1 := hid (HB.out.alloc (Nat.le_of_lt hsz) (.cells #[.int .i64 2, .string s, .int .i64 fn] 162))
            have HK1 := hid (HK.out.alloc (.cells #[.int .i64 2, .string s, .int .i64 fn] 162))
            have HZ1 := hid (HZ.out.alloc (.cells #[.int .i64 2, .string s, .int .i64 fn] 162))
            go_wp2_with fail
            refine (filterOf2_c s fn _).mono ?_
            rintro e w3 ⟨rfl, hb⟩
            have HB2 := hid (HB1.out.trans (hb.mono HB1.out.size))
            have HK2 := hid (HK1.out.to hb)
            have HZ2 := hid (HZ1.out.to hb)
            clear hb e0 e1 e2 e3 x0 x1 x2 x3 c0 c1 c2 HB1 HK1 HZ1
            obtain ⟨e0, x0⟩ := HK2.out.2 0 _ rfl
            obtain ⟨e1, x1⟩ := HK2.out.2 1 _ rfl
            obtain ⟨e2, x2⟩ := HK2.out.2 2 _ rfl
            obtain ⟨e3, x3⟩ := HK2.out.2 3 _ rfl
            unfold gateW
            have hsz3 := HK2.out.1
            have CL := hid (fun W => wordLets_c s nm tx q sq W htx)
            have HP := hid (pass2 (nm := nm.data.toList) (tx := tx.data.toList) (f := f) (q := q) HKK.out)
            rw [HNN.out] at HP
            cases hz : hasW tx.data.toList s.data.toList with
            | true =>
              rw [hz] at CL HP
              clear hz
              go_wp2_with fail
              refine (CL.out _).mono ?_
              rintro e w4 ⟨rfl, hb⟩
              have HB4 := hid (HB2.out.trans (hb.mono HB2.out.size))
              have HK4 := hid (HK2.out.to hb)
              have HZ4 := hid (HZ2.out.to hb)
              clear hb e0 e1 e2 e3 x0 x1 x2 x3
              obtain ⟨r0, y0⟩ := HZ4.out.2 0 _ rfl
              obtain ⟨r1, y1⟩ := HZ4.out.2 1 _ rfl
              obtain ⟨r2, y2⟩ := HZ4.out.2 2 _ rfl
              obtain ⟨r3, y3⟩ := HZ4.out.2 3 _ rfl
              go_wp2_with fail
              have RB := ((((HZ4.out.set 0 (.string ⟨#[]⟩)).set 1 (.int .i64 0)).set 2 (.string ⟨#[]⟩)).set 3 (.int .i64 0))
              have f0 := (RB.2 0 _ rfl).1
              have f1 := (RB.2 1 _ rfl).1
              have f2 := (RB.2 2 _ rfl).1
              have f3 := (RB.2 3 _ rfl).1
              refine bodyPost_ret (v := .tuple #[.agg #[.string ⟨#[]⟩, .int .i64 0, .string ⟨#[]⟩, .int .i64 0], .bool false]) (by simp [results, Tryz.results139, go_sem, f0, f1, f2, f3]) rfl ?_
              rw [HD.out (HP.out)]
              refine ⟨rfl, ?_⟩
              iterate 4 refine Below.setCell ?_ (by simp) _
              exact HB4.out
            | false =>
              rw [hz] at CL HP
              clear hz
              go_wp2_with fail
              refine (CL.out _).mono ?_
              rintro e w4 ⟨rfl, hb⟩
              have HB4 := hid (HB2.out.trans (hb.mono HB2.out.size))
              have HK4 := hid (HK2.out.to hb)
              have HZ4 := hid (HZ2.out.to hb)
              clear hb e0 e1 e2 e3 x0 x1 x2 x3
              go_wp2_with fail
              go_roundw
              case rel => exact ⟨k + 1, q, by go_num, by omega, (HRG.out _ (HP.out)).1, (HRG.out _ (HP.out)).2, HX.out.trans (HP.out), HB4.out, HK4.out, HZ4.out⟩
              case measure => simp [intOf]; omega
          · skip
            have HB1 := hid (HB.out.alloc (Nat.le_of_lt hsz) (.cells #[.int .i64 3, .string s, .int .i64 fn] 162))
            have HK1 := hid (HK.out.alloc (.cells #[.int .i64 3, .string s, .int .i64 fn] 162))
            have HZ1 := hid (HZ.out.alloc (.cells #[.int .i64 3, .string s, .int .i64 fn] 162))
            go_wp2_with fail
            refine (filterOf3_c s fn _).mono ?_
            rintro e w3 ⟨rfl, hb⟩
            have HB2 := hid (HB1.out.trans (hb.mono HB1.out.size))
            have HK2 := hid (HK1.out.to hb)
            have HZ2 := hid (HZ1.out.to hb)
            clear hb e0 e1 e2 e3 x0 x1 x2 x3 c0 c1 c2 HB1 HK1 HZ1
            obtain ⟨e0, x0⟩ := HK2.out.2 0 _ rfl
            obtain ⟨e1, x1⟩ := HK2.out.2 1 _ rfl
            obtain ⟨e2, x2⟩ := HK2.out.2 2 _ rfl
            obtain ⟨e3, x3⟩ := HK2.out.2 3 _ rfl
            unfold gateR
            have hsz3 := HK2.out.1
            have HP := hid (pass3 (nm := nm.data.toList) (tx := tx.data.toList) (f := f) (q := q) HKK.out)
            rw [HFN.out] at HP
            generalize hmx : (if q < fn then fn else q) = mx at HP
            have HMX := hid hmx
            clear hmx
            go_wp2_with fail
            rw [show max q fn = mx by rw [← HMX.out]; split <;> omega]
            have HB5 := hid ((HB2.out.setCell (p := ⟨w.heap.size, 1, none⟩) (Nat.le_refl _) (.int .i64 mx)).alloc (by simpa using Nat.le_of_lt hsz3) (.cells #[.int .i64 fn] 203))
            have HK5 := hid ((HK2.out.set 1 (.int .i64 mx)).alloc (.cells #[.int .i64 fn] 203))
            have HZ5 := hid ((HZ2.out.apart ⟨w.heap.size, 1, none⟩ (.int .i64 mx) (by simp)).alloc (.cells #[.int .i64 fn] 203))
            go_roundw
            case rel => exact ⟨k + 1, mx, by go_num, by omega, (HRG.out _ (HP.out)).1, (HRG.out _ (HP.out)).2, HX.out.trans (HP.out), HB5.out, HK5.out, HZ5.out⟩
            case measure => simp [intOf]; omega
        · have HE := hid (show filtL nm.data.toList tx.data.toList l lv = some q by
            have h9 := HQ.out
            rwa [List.take_of_length_le (by have := HV.out.2; omega)] at h9)
          obtain ⟨e0, x0⟩ := HK.out.2 0 _ rfl
          obtain ⟨e1, x1⟩ := HK.out.2 1 _ rfl
          obtain ⟨e2, x2⟩ := HK.out.2 2 _ rfl
          obtain ⟨e3, x3⟩ := HK.out.2 3 _ rfl
          obtain ⟨r0, y0⟩ := HZ.out.2 0 _ rfl
          obtain ⟨r1, y1⟩ := HZ.out.2 1 _ rfl
          obtain ⟨r2, y2⟩ := HZ.out.2 2 _ rfl
          obtain ⟨r3, y3⟩ := HZ.out.2 3 _ rfl
          go_wp2_with fail
          have RB := (((HZ.out.set 0 (.string nm)).set 1 (.int .i64 q)).set 2 (.string tx)).set 3 (.int .i64 sq)
          have f0 := (RB.2 0 _ rfl).1
          have f1 := (RB.2 1 _ rfl).1
          have f2 := (RB.2 2 _ rfl).1
          have f3 := (RB.2 3 _ rfl).1
          refine bodyPost_ret (v := .tuple #[.agg #[.string nm, .int .i64 q, .string tx, .int .i64 sq], .bool true]) (by simp [results, Tryz.results139, go_sem, f0, f1, f2, f3]) rfl ?_
          rw [HE.out]
          refine ⟨rfl, ?_⟩
          iterate 4 refine Below.setCell ?_ (by simp) _
          exact HB.out
end Go.Proofs.YtlifaeleoiodkaaGreatDoor
