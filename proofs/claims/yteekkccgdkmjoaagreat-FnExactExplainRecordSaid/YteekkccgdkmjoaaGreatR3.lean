/-
  RECORDS: ValidRecords, RecordsOf, DropRepeats of both.
-/
import Derived.Test.YteekkccgdkmjoaaGreatR2
import Derived.Deep.QuietTactic
import Derived.BigQuiet
import Derived.Deep.RegionHeld3
namespace Go.Proofs.YteekkccgdkmjoaaGreat
open Go.RowKit Nm
set_option linter.unusedSimpArgs false
set_option linter.unusedVariables false

theorem own_apart {w w' : World} {base n sz m : Nat} {e : TypeId} {v : Value} {xs : List Value} (h : w.ownsRow base e sz v n xs) (hg : w.grownBy w' (some m)) (hm : m < base) : w'.ownsRow base e sz v n xs :=
  h.kept hg (by
    cases hq : v.ownBlock with
    | none => exact .inl rfl
    | some g => right; intro e; cases e; have := own_lt h _ hq; omega)
theorem own_dr {w : World} {base n sz : Nat} {e : TypeId} {v : Value} {xs : List Value} (h : w.ownsRow base e sz v n xs) (k : Nat) : (w.drewN k).ownsRow base e sz v n xs := own_below h (below_dr (Below.refl _ _) k)
theorem eq_bool (p q : ByteArray) : ∃ a : Bool, (p.toList == q.toList) = a ∧ decide (q.data.toList = p.data.toList) = a := by
  by_cases h : p.data.toList = q.data.toList
  · exact ⟨true, eq_true_of h, decide_eq_true h.symm⟩
  · exact ⟨false, eq_false_of h, decide_eq_false fun e => h e.symm⟩
theorem eq_bool_i (p q : Int) : ∃ a : Bool, (p == q) = a ∧ decide (q = p) = a := by
  by_cases h : p = q
  · exact ⟨true, by simpa using h, decide_eq_true h.symm⟩
  · exact ⟨false, by simpa using h, decide_eq_false fun e => h e.symm⟩
/-- what a loop collects, round by round -/
def rounds {α : Type} (f : Nat → List α) (n : Nat) : List α := (List.range n).flatMap f
theorem rounds_zero {α : Type} (f : Nat → List α) : rounds f 0 = [] := rfl
theorem rounds_succ' {α : Type} (f : Nat → List α) (n : Nat) : rounds f (n + 1) = rounds f n ++ f n := by
  unfold rounds; rw [List.range_succ, List.flatMap_append]; simp
theorem rounds_len {α : Type} (f : Nat → List α) (hf : ∀ i, (f i).length ≤ 1) (n : Nat) : (rounds f n).length ≤ n := by
  induction n with
  | zero => simp [rounds]
  | succ n ih => rw [rounds_succ', List.length_append]; have := hf n; omega
theorem rounds_hit {α : Type} {f : Nat → List α} {n : Nat} {x : α} (h : f n = [x]) : rounds f (n + 1) = rounds f n ++ [x] := by rw [rounds_succ', h]
theorem rounds_miss {α : Type} {f : Nat → List α} {n : Nat} (h : f n = []) : rounds f (n + 1) = rounds f n := by rw [rounds_succ', h, List.append_nil]
/-- element k, if p says so -/
def pickIf {α : Type} (l : List α) (p : Nat → α → Bool) (k : Nat) : List α := match l[k]? with
  | some x => if p k x then [x] else []
  | none => []
theorem pickIf_len {α : Type} (l : List α) (p : Nat → α → Bool) (k : Nat) : (pickIf l p k).length ≤ 1 := by
  unfold pickIf; split
  · split <;> simp
  · simp
theorem pickIf_hit {α : Type} {l : List α} {p : Nat → α → Bool} {k : Nat} {x : α} (h : l[k]? = some x) (hp : p k x = true) : pickIf l p k = [x] := by unfold pickIf; rw [h]; simp [hp]
theorem pickIf_miss {α : Type} {l : List α} {p : Nat → α → Bool} {k : Nat} {x : α} (h : l[k]? = some x) (hp : p k x = false) : pickIf l p k = [] := by unfold pickIf; rw [h]; simp [hp]

set_option maxHeartbeats 2000000 in
set_option maxRecDepth 100000 in
theorem implValidRecords_c (v : Value) (n B : Nat) (l : List Rec) (w : World) (hv : Rs w B n v l) (hB : B ≤ w.heap.size) :
    Calls Tryz.prog 45 #[v] w (BoolPost w (recsOk l)) := by
  have hln := hv.count
  obtain ⟨A, c, rfl, hnc, hcm⟩ := hv.1.form
  unfold maxLen at hcm
  by_cases h12 : (12 : Int) < (n : Int)
  · have HE := hid (show recsOk l = false by unfold recsOk; rw [decide_eq_false (show ¬ l.length ≤ 12 by omega), Bool.and_false])
    clear hv hln
    go_enter Tryz.func45, Tryz.ntmps45
    go_wp2_with fail
    go_ret
    exact ⟨ret_bool HE.out.symm, Below.refl _ _⟩
  have HV := hid (And.intro hv hln)
  clear hv hln
  go_enter Tryz.func45, Tryz.ntmps45
  go_wp2_with fail
  go_loopw [10] (fun iv wr => ∃ k : Nat, iv = .int .i64 k ∧ k ≤ n ∧ Hid ((l.take k).all recOk = true) ∧ Hid (Below w.heap.size w wr)) (fun iv _ => n - (intOf iv).toNat)
  case atStart => exact ⟨0, rfl, by omega, by simp [Hid], Below.refl _ _⟩
  case round =>
    obtain ⟨k, rfl, hk, HL, HB⟩ := hrel
    by_cases hlt : k < n
    · obtain ⟨b, o, nm, lv, tx, sq, rfl, hbB, hx, c0, c1, c2, c3⟩ := rcells_at (HV.out.1.1.below HB.out hB) hlt
      have hfit := rcells_fit HV.out.1.2 hx
      have hcall := hid (fun W => implValidRecord_c nm tx lv sq W hfit.1 hfit.2)
      have HX := hid hx
      have HB0 := hid (HB.out.alloc HB.out.size (.cells #[.string nm, .int .i64 lv, .string tx, .int .i64 sq] 37))
      clear hx hfit
      cases ho : recOk ⟨nm.data.toList, lv, tx.data.toList, sq⟩
      all_goals
        rw [ho] at hcall
        have HO := hid ho
        clear ho
        go_wp2_with (go_at_call 63; refine (hcall.out _).mono ?_; rintro e w1 ⟨rfl, hb⟩; replace HB0 := hid (HB0.out.trans (hb.mono HB0.out.size)); clear hb)
      · go_ret
        exact ⟨ret_bool (by unfold recsOk; rw [all_bad _ l k _ HX.out HO.out]; rfl), HB0.out⟩
      · go_roundw
        case rel => exact ⟨k + 1, by go_num, by omega, take_all _ _ _ _ HL.out HX.out HO.out, HB0.out⟩
        case measure => simp [intOf]; omega
    · have HE := hid (show recsOk l = true by
        have h1 := HL.out
        rw [List.take_of_length_le (by have := HV.out.2; omega)] at h1
        unfold recsOk
        rw [h1, Bool.true_and]; exact decide_eq_true (by have := HV.out.2; omega))
      go_wp2_with fail
      go_ret
      exact ⟨ret_bool HE.out.symm, HB.out⟩

/-- two records that differ in their numbers alone -/
def alike (x y : Rec) : Bool := decide (x.nm = y.nm) && (decide (x.lv = y.lv) && decide (x.tx = y.tx))
def recsOf (l : List Snt) (x : List UInt8) : List Rec := (rounds (pickIf l fun _ s => decide (s.hd = x)) l.length).map (·.rc)
theorem recs_le (l : List Snt) (x : List UInt8) (k : Nat) : ((rounds (pickIf l fun _ s => decide (s.hd = x)) k).map (·.rc)).length ≤ k := by
  rw [List.length_map]; exact rounds_len _ (fun i => pickIf_len _ _ i) k

theorem recsOf_len (l : List Snt) (x : List UInt8) : (recsOf l x).length ≤ l.length := recs_le l x _
end Go.Proofs.YteekkccgdkmjoaaGreat
