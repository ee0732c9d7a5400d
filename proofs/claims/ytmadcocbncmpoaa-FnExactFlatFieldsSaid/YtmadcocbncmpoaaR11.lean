/-
  FIELDS: whether they are valid, by the program (the library's IndexFunc with a closure) and by the model.
-/
import Derived.Test.YtmadcocbncmpoaaGField
import Derived.Test.YtmadcocbncmpoaaUM
import Derived.Deep.QuietTactic
import Derived.BigQuiet
namespace Go.Proofs.Ytmadcocbncmpoaa
open Go.RowKit Nm
set_option linter.unusedSimpArgs false
set_option linter.unusedVariables false

theorem flat_takeK {α : Type} (f : α → List Value) (d : Nat) (hf : ∀ x, (f x).length = d) (l : List α) (k : Nat) : (l.flatMap f).take (k * d) = (l.take k).flatMap f := by
  induction l generalizing k with
  | nil => simp
  | cons a t ih =>
    cases k with
    | zero => simp
    | succ k => rw [List.flatMap_cons, List.take_succ_cons, List.flatMap_cons, List.take_append, List.take_of_length_le (by rw [hf]; rw [Nat.add_mul]; omega), hf, show (k + 1) * d - d = k * d by rw [Nat.add_mul]; omega, ih]
theorem Sl.cutK {w : World} {B n c d : Nat} {A : Option Addr} {xs : List Value} (h : Sl w B d n (.slice A n c) xs) {k : Nat} (hk : k ≤ n) : Sl w B d k (.slice A k c) (xs.take (k * d)) := by
  obtain ⟨A', c', he, h2, h3, hl, h4⟩ := h.parts_
  obtain ⟨rfl, -, rfl⟩ : A = A' ∧ n = n ∧ c = c' := by simpa using he
  refine ⟨by rw [List.length_take, hl]; exact Nat.min_eq_left (Nat.mul_le_mul_right _ hk), A, c, rfl, by omega, h3, fun hk0 => ?_⟩
  obtain ⟨b, o, e, hb, hc⟩ := h4 (by omega)
  refine ⟨b, o, e, hb, fun j u hu => hc j u ?_⟩
  rw [List.getElem?_take] at hu
  split at hu
  · exact hu
  · cases hu
/-- p holds at all places below n -/
def allAt (p : Nat → Bool) (n : Nat) : Bool := (List.range n).all p
theorem allAt_zero (p : Nat → Bool) : allAt p 0 = true := rfl
theorem allAt_bad {p : Nat → Bool} {n k : Nat} (hk : k < n) (h : p k = false) : allAt p n = false := by
  cases hw : allAt p n with
  | false => rfl
  | true =>
    unfold allAt at hw
    rw [List.all_eq_true] at hw
    rw [hw k (List.mem_range.2 hk)] at h; cases h
theorem allAt_next {p : Nat → Bool} {k : Nat} (h : allAt p k = true) (hk : p k = true) : allAt p (k + 1) = true := by
  unfold allAt at h ⊢
  rw [List.range_succ, List.all_append, h]; simp [hk]

def keysOf (l : List Fld) : List (List UInt8) := l.map (·.ky)
/-- field i: words, and no earlier one of its key -/
def fitem (l : List Fld) (i : Nat) : Bool := match l[i]? with
  | some f => wordOk f.ky && (wordOk f.vl && !decide (f.ky ∈ (keysOf l).take i))
  | none => true
def fldsOk (l : List Fld) : Bool := allAt (fitem l) l.length && decide (l.length ≤ 5)
theorem fitem_eq {l : List Fld} {i : Nat} {f : Fld} (h : l[i]? = some f) : fitem l i = (wordOk f.ky && (wordOk f.vl && !decide (f.ky ∈ (keysOf l).take i))) := by unfold fitem; rw [h]
theorem keysOf_at {l : List Fld} {k : Nat} {f : Fld} (h : l[k]? = some f) : (keysOf l)[k]? = some f.ky := by unfold keysOf; rw [List.getElem?_map, h]; rfl
theorem idx_lt {ns : List (List UInt8)} {x : List UInt8} {k : Nat} (h : ns[k]? = some x) : decide (idxL ns x < (k : Int)) = decide (x ∈ ns.take k) := by
  have hm : x ∈ ns := List.mem_of_getElem? h
  have hk := (List.getElem?_eq_some_iff.1 h).1
  refine decide_eq_decide.2 ?_
  unfold idxL
  rw [if_pos hm]
  constructor
  · intro h1
    have h2 : ns.idxOf x < k := by omega
    have h3 : ns.idxOf x < ns.length := List.idxOf_lt_length_of_mem hm
    have h4 : (ns.take k)[ns.idxOf x]? = some x := by
      rw [List.getElem?_take_of_lt h2, List.getElem?_eq_getElem h3]; simp
    exact List.mem_of_getElem? h4
  · intro h1
    have h5 := List.idxOf_append (l₁ := ns.take k) (l₂ := ns.drop k) (a := x)
    rw [if_pos h1, List.take_append_drop] at h5
    have h6 := List.idxOf_lt_length_of_mem h1
    rw [List.length_take] at h6
    omega

set_option maxHeartbeats 1000000 in
set_option maxRecDepth 100000 in
theorem keyAtFn_c (a b s : ByteArray) (bx : Nat) (w : World) (hc : w.cell? ⟨bx, 0, none⟩ = some (.string s)) :
    Calls Try.prog 27 #[.agg #[.string a, .string b], .pointer (some ⟨bx, 0, none⟩)] w (BoolPost w (decide (a.data.toList = s.data.toList))) := by
  have hlt : bx < w.heap.size := World.block_lt_of_cell? w _ hc
  have e0 := beq_txt a s
  have e1 : (w.alloc (.cells #[.string a, .string b] 40)).cell? ⟨bx, 0, none⟩ = some (.string s) := (World.cell?_alloc_past _ _ _ hlt).trans hc
  go_enter Try.func27, Try.ntmps27
  go_wp2_with fail
  go_ret
  exact ⟨ret_bool (decide_eq_decide.2 Array.toList_inj.symm), by go_grown⟩

set_option maxHeartbeats 4000000 in
set_option maxRecDepth 100000 in
theorem indexFld_c (v : Value) (n B bx : Nat) (l : List Fld) (s : ByteArray) (w : World) (hv : Flds w B n v l) (hB : B ≤ w.heap.size) (hc : w.cell? ⟨bx, 0, none⟩ = some (.string s)) :
    Calls Try.prog 26 #[v, .func (.func 27) #[] #[.pointer (some ⟨bx, 0, none⟩)]] w
      (fun e w' => e = .returned (.int .i64 (idxL (keysOf l) s.data.toList)) ∧ Below w.heap.size w w') := by
  have hlt0 : bx < w.heap.size := World.block_lt_of_cell? w _ hc
  have hln := hv.count
  obtain ⟨A, c, rfl, hnc, hcm⟩ := hv.1.form
  unfold maxLen at hcm
  have HV := hid (And.intro hv hln)
  have HC := hid (And.intro hc hlt0)
  clear hv hln hc hlt0
  go_enter Try.func26, Try.ntmps26
  go_wp2_with fail
  go_loopw [8] (fun iv wr => ∃ (k : Nat), iv = .int .i64 k ∧ k ≤ n ∧ Hid (¬ s.data.toList ∈ (keysOf l).take k) ∧ Hid (Below w.heap.size w wr)) (fun iv _ => n - (intOf iv).toNat)
  case atStart => exact ⟨0, rfl, by omega, by simp [Hid], Below.refl _ _⟩
  case round =>
    obtain ⟨k, rfl, hk, HN, HB⟩ := hrel
    by_cases hlt : k < n
    · obtain ⟨b, o, ky, vl, rfl, hbB, hx, c0, c1⟩ := fdcells_at (HV.out.1.1.below HB.out hB) hlt
      have E := hid (keyAtFn_c ky vl s bx wr ((HB.out.cell (p := ⟨bx, 0, none⟩) HC.out.2).trans HC.out.1))
      have HX := hid (keysOf_at hx)
      clear hx
      cases hz : decide (ky.data.toList = s.data.toList) with
      | true =>
        rw [hz] at E
        have HZ := hid hz
        clear hz
        go_wp2_with (go_at_call 27; refine (E.out).mono ?_; rintro e w2 ⟨rfl, hb⟩)
        go_ret
        refine ⟨ret_int ?_, HB.out.trans (hb.mono HB.out.size)⟩
        have h := of_decide_eq_true HZ.out
        rw [idx_hit _ _ k (by rw [HX.out, h]) HN.out]
      | false =>
        rw [hz] at E
        have HZ := hid hz
        clear hz
        go_wp2_with (go_at_call 27; refine (E.out).mono ?_; rintro e w2 ⟨rfl, hb⟩)
        go_roundw
        case rel => exact ⟨k + 1, by go_num, by omega, not_take_succ _ _ _ _ HN.out HX.out (of_decide_eq_false HZ.out), HB.out.trans (hb.mono HB.out.size)⟩
        case measure => simp [intOf]; omega
    · have HE := hid (show ¬ s.data.toList ∈ keysOf l by
        have h := HN.out
        rwa [List.take_of_length_le (by unfold keysOf; rw [List.length_map]; have := HV.out.2; omega)] at h)
      go_wp2_with fail
      go_ret
      exact ⟨ret_int (by rw [idx_miss _ _ HE.out]), HB.out⟩

set_option maxHeartbeats 1000000 in
set_option maxRecDepth 100000 in
theorem keyAt_c (v : Value) (n B : Nat) (l : List Fld) (s : ByteArray) (w : World) (hv : Flds w B n v l) (hB : B ≤ w.heap.size) :
    Calls Try.prog 18 #[v, .string s] w (fun e w' => e = .returned (.int .i64 (idxL (keysOf l) s.data.toList)) ∧ Below w.heap.size w w') := by
  have hb0 : Below w.heap.size w (w.alloc (.cells #[.string s] 9)) := (Below.refl _ _).alloc (Nat.le_refl _) _
  have C := hid (indexFld_c v n B w.heap.size l s _ (hv.below hb0 hB) (Nat.le_trans hB hb0.size) ((Blk.new w #[.string s] 9).2 0 _ rfl).1)
  have HB0 := hid hb0
  obtain ⟨A, c, rfl, hnc, hcm⟩ := hv.1.form
  have hmf : ∀ (fn : Fn) (first cap : Array Value) (w : World), (Instr.makeFunc fn first cap).run Try.prog w = .ok (.func fn first cap) w := fun _ _ _ _ => rfl
  generalize idxL (keysOf l) s.data.toList = z at C ⊢
  clear hv hb0
  go_enter Try.func18, Try.ntmps18
  go_wp2_with fail
  refine C.out.mono ?_
  rintro e w1 ⟨rfl, hb⟩
  have HB1 := hid (HB0.out.trans (hb.mono HB0.out.size))
  clear hb
  go_wp2_with fail
  go_ret
  exact ⟨rfl, HB1.out⟩

set_option maxHeartbeats 4000000 in
set_option maxRecDepth 100000 in
theorem implValidFields_c (v : Value) (n B : Nat) (l : List Fld) (w : World) (hv : Flds w B n v l) (hB : B ≤ w.heap.size) :
    Calls Try.prog 17 #[v] w (BoolPost w (fldsOk l)) := by
  have hln := hv.count
  obtain ⟨A, c, rfl, hnc, hcm⟩ := hv.1.form
  unfold maxLen at hcm
  by_cases h12 : (5 : Int) < (n : Int)
  · have HE := hid (show fldsOk l = false by unfold fldsOk; rw [decide_eq_false (show ¬ l.length ≤ 5 by omega), Bool.and_false])
    clear hv hln
    go_enter Try.func17, Try.ntmps17
    go_wp2_with fail
    go_ret
    exact ⟨ret_bool HE.out.symm, Below.refl _ _⟩
  have CK := hid (fun (s : ByteArray) (W : World) (hW : Below w.heap.size w W) => keyAt_c _ n B l s W (hv.below hW hB) (Nat.le_trans hB hW.size))
  have HV := hid (And.intro hv hln)
  clear hv hln
  go_enter Try.func17, Try.ntmps17
  go_wp2_with fail
  go_loopw [10] (fun iv wr => ∃ k : Nat, iv = .int .i64 k ∧ k ≤ n ∧ Hid (allAt (fitem l) k = true) ∧ Hid (Below w.heap.size w wr)) (fun iv _ => n - (intOf iv).toNat)
  case atStart => exact ⟨0, rfl, by omega, rfl, Below.refl _ _⟩
  case round =>
    obtain ⟨k, rfl, hk, HL, HB⟩ := hrel
    by_cases hlt : k < n
    · obtain ⟨b, o, ky, vl, rfl, hbB, hx, c0, c1⟩ := fdcells_at (HV.out.1.1.below HB.out hB) hlt
      have hfit := fdcells_fit HV.out.1.2 hx
      have f1 := hfit.1
      have f2 := hfit.2
      unfold maxTxt at f1 f2
      have C1 := hid (fun W => isWord_c ky W (by unfold maxLen; omega))
      have C2 := hid (fun W => isWord_c vl W (by unfold maxLen; omega))
      have HB0 := hid (HB.out.alloc HB.out.size (.cells #[.string ky, .string vl] 40))
      have HC := hid (Below.refl (wr.alloc (.cells #[.string ky, .string vl] 40)).heap.size (wr.alloc (.cells #[.string ky, .string vl] 40)))
      have CKy := hid (CK.out ky)
      have HI := hid (show fitem l k = (wordOk ky.data.toList && (wordOk vl.data.toList && !decide (idxL (keysOf l) ky.data.toList < (k : Int)))) by rw [fitem_eq hx, idx_lt (keysOf_at hx)])
      have HKn := hid (show k < l.length by rw [HV.out.2]; exact hlt)
      clear hx hfit
      generalize wordOk ky.data.toList = a at C1 HI
      generalize wordOk vl.data.toList = a' at C2 HI
      generalize idxL (keysOf l) ky.data.toList = z at CKy HI
      generalize hI : fitem l k = it at HI
      have HF := hid hI
      clear hI
      cases a with
      | false =>
        have HZ := hid (show it = false from HI.out)
        go_wp2_with (first | (go_at_call 25; refine (C1.out _).mono ?_; rintro e w1 ⟨rfl, hb1⟩; replace HC := hid (HC.out.trans (hb1.mono HC.out.size)); clear hb1; have d0 := box_cell HC.out 0; have d1 := box_cell HC.out 1))
        go_ret
        exact ⟨ret_bool (by unfold fldsOk; rw [allAt_bad HKn.out (by rw [HF.out, HZ.out])]; rfl), HB0.out.trans (HC.out.mono (by simp; have := HB0.out.size; try simp at this; try omega))⟩
      | true =>
        go_wp2_with (first | (go_at_call 25; refine (C1.out _).mono ?_; rintro e w1 ⟨rfl, hb1⟩; replace HC := hid (HC.out.trans (hb1.mono HC.out.size)); clear hb1 C1; have d0 := box_cell HC.out 0; have d1 := box_cell HC.out 1))
        refine (C2.out _).mono ?_
        rintro e w2 ⟨rfl, hb1⟩
        replace HC := hid (HC.out.trans (hb1.mono HC.out.size))
        clear hb1 C2
        have d0 := box_cell HC.out 0
        have HW := hid (show Below w.heap.size w w2 from HB0.out.trans (HC.out.mono (by simp; have := HB0.out.size; try simp at this; try omega)))
        cases a' with
        | false =>
          have HZ := hid (show it = false from HI.out)
          go_wp2_with fail
          go_ret
          exact ⟨ret_bool (by unfold fldsOk; rw [allAt_bad HKn.out (by rw [HF.out, HZ.out])]; rfl), HW.out⟩
        | true =>
          go_wp2_with fail
          refine (CKy.out _ HW.out).mono ?_
          rintro e w3 ⟨rfl, hb2⟩
          replace HW := hid (HW.out.trans (hb2.mono HW.out.size))
          clear hb2 CKy
          by_cases hz : z < (k : Int)
          · have HZ := hid (show it = false by rw [HI.out, decide_eq_true hz]; rfl)
            go_wp2_with fail
            go_ret
            exact ⟨ret_bool (by unfold fldsOk; rw [allAt_bad HKn.out (by rw [HF.out, HZ.out])]; rfl), HW.out⟩
          · have HZ := hid (show it = true by rw [HI.out, decide_eq_false hz]; rfl)
            go_wp2_with fail
            go_roundw
            case rel => exact ⟨k + 1, by go_num, by omega, allAt_next HL.out (by rw [HF.out, HZ.out]), HW.out⟩
            case measure => simp [intOf]; omega
    · have HE := hid (show fldsOk l = true by
        have h1 := HL.out
        rw [show k = l.length by have := HV.out.2; omega] at h1
        unfold fldsOk
        rw [h1, Bool.true_and]; exact decide_eq_true (by have := HV.out.2; omega))
      go_wp2_with fail
      go_ret
      exact ⟨ret_bool HE.out.symm, HB.out⟩
end Go.Proofs.Ytmadcocbncmpoaa
