/-
  R2, R3, U0, U1, U2 laid together.
-/
import Derived.Test.YtlifaeleoiodkaaGreatDoorGM
import Derived.Deep.QuietTactic
import Derived.BigQuiet
import Derived.Deep.RegionHeld3
import Derived.Test.YtlifaeleoiodkaaGreatDoorLookS
/-
  RECORDS: validRecords, ValidRecords, RecordsOf of both.
-/
namespace Go.Proofs.YtlifaeleoiodkaaGreatDoor
open Go.RowKit Nm
set_option linter.unusedSimpArgs false
set_option linter.unusedVariables false

theorem own_snoc {α : Type} {f : α → List Value} {w : World} {base d : Nat} {T : TypeId} {v : Value} {l : List α} {x : α} (h : w.ownsRow base T d v (l.length + 1) (l.flatMap f ++ f x)) :
    w.ownsRow base T d v (l ++ [x]).length ((l ++ [x]).flatMap f) := by simpa using h
theorem bounded {B n : Nat} (h : n ≤ B) (hB : B ≤ 1048576) : n + 1 ≤ maxLen ∧ (n + 1) * 128 ≤ 140737488355328 := by unfold maxLen; omega
theorem all_bad {α : Type} (f : α → Bool) (l : List α) (k : Nat) (x : α) (hx : l[k]? = some x) (h : f x = false) : l.all f = false := by
  rw [Bool.eq_false_iff]; intro hn
  rw [List.all_eq_true] at hn
  rw [hn x (List.mem_of_getElem? hx)] at h; cases h

end Go.Proofs.YtlifaeleoiodkaaGreatDoor

/-
  RECORDS: ValidRecords, RecordsOf, DropRepeats of both.
-/
namespace Go.Proofs.YtlifaeleoiodkaaGreatDoor
open Go.RowKit Nm
set_option linter.unusedSimpArgs false
set_option linter.unusedVariables false

theorem own_apart {w w' : World} {base n sz m : Nat} {e : TypeId} {v : Value} {xs : List Value} (h : w.ownsRow base e sz v n xs) (hg : w.grownBy w' (some m)) (hm : m < base) : w'.ownsRow base e sz v n xs :=
  h.kept hg (by
    cases hq : v.ownBlock with
    | none => exact .inl rfl
    | some g => right; intro e; cases e; have := own_lt h _ hq; omega)
theorem own_dr {w : World} {base n sz : Nat} {e : TypeId} {v : Value} {xs : List Value} (h : w.ownsRow base e sz v n xs) (k : Nat) : (w.drewN k).ownsRow base e sz v n xs := own_below h (below_dr (Below.refl _ _) k)
theorem eq_bool (p q : ByteArray) : ∃ a : Bool, (p.toList == q.toList) = a ∧ decide (q.data.toList = p.data.toList) = a := by
  by_cases h : p.data.toList = q.data.toList
  · exact ⟨true, eq_true_of h, decide_eq_true h.symm⟩
  · exact ⟨false, eq_false_of h, decide_eq_false fun e => h e.symm⟩
theorem eq_bool_i (p q : Int) : ∃ a : Bool, (p == q) = a ∧ decide (q = p) = a := by
  by_cases h : p = q
  · exact ⟨true, by simpa using h, decide_eq_true h.symm⟩
  · exact ⟨false, by simpa using h, decide_eq_false fun e => h e.symm⟩
/-- what a loop collects, round by round -/
def rounds {α : Type} (f : Nat → List α) (n : Nat) : List α := (List.range n).flatMap f
theorem rounds_zero {α : Type} (f : Nat → List α) : rounds f 0 = [] := rfl
theorem rounds_succ' {α : Type} (f : Nat → List α) (n : Nat) : rounds f (n + 1) = rounds f n ++ f n := by
  unfold rounds; rw [List.range_succ, List.flatMap_append]; simp
theorem rounds_len {α : Type} (f : Nat → List α) (hf : ∀ i, (f i).length ≤ 1) (n : Nat) : (rounds f n).length ≤ n := by
  induction n with
  | zero => simp [rounds]
  | succ n ih => rw [rounds_succ', List.length_append]; have := hf n; omega
theorem rounds_hit {α : Type} {f : Nat → List α} {n : Nat} {x : α} (h : f n = [x]) : rounds f (n + 1) = rounds f n ++ [x] := by rw [rounds_succ', h]
theorem rounds_miss {α : Type} {f : Nat → List α} {n : Nat} (h : f n = []) : rounds f (n + 1) = rounds f n := by rw [rounds_succ', h, List.append_nil]
/-- element k, if p says so -/
def pickIf {α : Type} (l : List α) (p : Nat → α → Bool) (k : Nat) : List α := match l[k]? with
  | some x => if p k x then [x] else []
  | none => []
theorem pickIf_len {α : Type} (l : List α) (p : Nat → α → Bool) (k : Nat) : (pickIf l p k).length ≤ 1 := by
  unfold pickIf; split
  · split <;> simp
  · simp
theorem pickIf_hit {α : Type} {l : List α} {p : Nat → α → Bool} {k : Nat} {x : α} (h : l[k]? = some x) (hp : p k x = true) : pickIf l p k = [x] := by unfold pickIf; rw [h]; simp [hp]
theorem pickIf_miss {α : Type} {l : List α} {p : Nat → α → Bool} {k : Nat} {x : α} (h : l[k]? = some x) (hp : p k x = false) : pickIf l p k = [] := by unfold pickIf; rw [h]; simp [hp]

set_option maxHeartbeats 2000000 in
set_option maxRecDepth 100000 in
theorem implValidRecords_c (v : Value) (n B : Nat) (l : List Rec) (w : World) (hv : Rs w B n v l) (hB : B ≤ w.heap.size) :
    Calls Tryz.prog 60 #[v] w (BoolPost w (recsOk l)) := by
  have hln := hv.count
  obtain ⟨A, c, rfl, hnc, hcm⟩ := hv.1.form
  unfold maxLen at hcm
  by_cases h12 : (12 : Int) < (n : Int)
  · have HE := hid (show recsOk l = false by unfold recsOk; rw [decide_eq_false (show ¬ l.length ≤ 12 by omega), Bool.and_false])
    clear hv hln
    go_enter Tryz.func60, Tryz.ntmps60
    go_wp2_with fail
    go_ret
    exact ⟨ret_bool HE.out.symm, Below.refl _ _⟩
  have HV := hid (And.intro hv hln)
  clear hv hln
  go_enter Tryz.func60, Tryz.ntmps60
  go_wp2_with fail
  go_loopw [10] (fun iv wr => ∃ k : Nat, iv = .int .i64 k ∧ k ≤ n ∧ Hid ((l.take k).all recOk = true) ∧ Hid (Below w.heap.size w wr)) (fun iv _ => n - (intOf iv).toNat)
  case atStart => exact ⟨0, rfl, by omega, by simp [Hid], Below.refl _ _⟩
  case round =>
    obtain ⟨k, rfl, hk, HL, HB⟩ := hrel
    by_cases hlt : k < n
    · obtain ⟨b, o, nm, lv, tx, sq, rfl, hbB, hx, c0, c1, c2, c3⟩ := rcells_at (HV.out.1.1.below HB.out hB) hlt
      have hfit := rcells_fit HV.out.1.2 hx
      have hcall := hid (fun W => implValidRecord_c nm tx lv sq W hfit.1 hfit.2)
      have HX := hid hx
      have HB0 := hid (HB.out.alloc HB.out.size (.cells #[.string nm, .int .i64 lv, .string tx, .int .i64 sq] 61))
      clear hx hfit
      cases ho : recOk ⟨nm.data.toList, lv, tx.data.toList, sq⟩
      all_goals
        rw [ho] at hcall
        have HO := hid ho
        clear ho
        go_wp2_with (go_at_call 102; refine (hcall.out _).mono ?_; rintro e w1 ⟨rfl, hb⟩; replace HB0 := hid (HB0.out.trans (hb.mono HB0.out.size)); clear hb)
      · go_ret
        exact ⟨ret_bool (by unfold recsOk; rw [all_bad _ l k _ HX.out HO.out]; rfl), HB0.out⟩
      · go_roundw
        case rel => exact ⟨k + 1, by go_num, by omega, take_all _ _ _ _ HL.out HX.out HO.out, HB0.out⟩
        case measure => simp [intOf]; omega
    · have HE := hid (show recsOk l = true by
        have h1 := HL.out
        rw [List.take_of_length_le (by have := HV.out.2; omega)] at h1
        unfold recsOk
        rw [h1, Bool.true_and]; exact decide_eq_true (by have := HV.out.2; omega))
      go_wp2_with fail
      go_ret
      exact ⟨ret_bool HE.out.symm, HB.out⟩

/-- two records that differ in their numbers alone -/
def alike (x y : Rec) : Bool := decide (x.nm = y.nm) && (decide (x.lv = y.lv) && decide (x.tx = y.tx))
def recsOf (l : List Snt) (x : List UInt8) : List Rec := (rounds (pickIf l fun _ s => decide (s.hd = x)) l.length).map (·.rc)
theorem recs_le (l : List Snt) (x : List UInt8) (k : Nat) : ((rounds (pickIf l fun _ s => decide (s.hd = x)) k).map (·.rc)).length ≤ k := by
  rw [List.length_map]; exact rounds_len _ (fun i => pickIf_len _ _ i) k

theorem recsOf_len (l : List Snt) (x : List UInt8) : (recsOf l x).length ≤ l.length := recs_le l x _
end Go.Proofs.YtlifaeleoiodkaaGreatDoor

/-
  USERS: the loggers that have a handler, the handlers that have users; plain.
-/
namespace Go.Proofs.YtlifaeleoiodkaaGreatDoor
open Go.RowKit Nm
set_option linter.unusedSimpArgs false
set_option linter.unusedVariables false

/-- the names of the first loggers that have a handler -/
def usersK (L : List Lgr) (x : Name) (k : Nat) : List Name := (rounds (pickIf L fun _ l => decide (x ∈ l.hs)) k).map (·.nm)
theorem usersK_len (L : List Lgr) (x : Name) (k : Nat) : (usersK L x k).length ≤ k := by
  unfold usersK; rw [List.length_map]; exact rounds_len _ (fun i => pickIf_len _ _ i) k
theorem usersK_zero (L : List Lgr) (x : Name) : usersK L x 0 = [] := rfl
theorem lgr_some {L : List Lgr} {k : Nat} (h : k < L.length) : ∃ l, L[k]? = some l ∧ l.nm = (nsOf L).getD k [] ∧ l.hs = (L.map (·.hs)).getD k [] := by
  refine ⟨L[k], List.getElem?_eq_getElem h, ?_, ?_⟩
  · unfold nsOf; simp [List.getD, h]
  · simp [List.getD, h]
theorem usersK_hit {L : List Lgr} {x : Name} {k : Nat} (h : k < L.length) (hm : x ∈ (L.map (·.hs)).getD k []) : usersK L x (k + 1) = usersK L x k ++ [(nsOf L).getD k []] := by
  obtain ⟨l, e, hn, hh⟩ := lgr_some h
  unfold usersK
  rw [rounds_hit (pickIf_hit e (by rw [hh]; exact decide_eq_true hm)), List.map_append, ← hn]; rfl
theorem usersK_miss {L : List Lgr} {x : Name} {k : Nat} (h : k < L.length) (hm : ¬ x ∈ (L.map (·.hs)).getD k []) : usersK L x (k + 1) = usersK L x k := by
  obtain ⟨l, e, hn, hh⟩ := lgr_some h
  unfold usersK
  rw [rounds_miss (pickIf_miss e (by rw [hh]; exact decide_eq_false hm))]
def usersN (L : List Lgr) (x : Name) : List Name := usersK L x L.length
def usersT (L : List Lgr) (H : List Hnd) (q : Int) (x : Name) : List Name := if treeOk L H q then usersN L x else []
theorem usersT_len (L : List Lgr) (H : List Hnd) (q : Int) (x : Name) : (usersT L H q x).length ≤ 8 := by
  unfold usersT
  split
  · rename_i h
    have h1 := usersK_len L x L.length
    have h2 := (tree_names h).2.2.2.1
    unfold usersN; omega
  · simp
/-- the names of the first handlers that have users -/
def usedK (L : List Lgr) (H : List Hnd) (k : Nat) : List Name := (rounds (pickIf H fun _ h => decide (0 < (usersN L h.nm).length)) k).map (·.nm)
theorem usedK_len (L : List Lgr) (H : List Hnd) (k : Nat) : (usedK L H k).length ≤ k := by
  unfold usedK; rw [List.length_map]; exact rounds_len _ (fun i => pickIf_len _ _ i) k
theorem usedK_hit {L : List Lgr} {H : List Hnd} {k : Nat} {h : Hnd} (e : H[k]? = some h) (hp : 0 < (usersN L h.nm).length) : usedK L H (k + 1) = usedK L H k ++ [h.nm] := by
  unfold usedK
  rw [rounds_hit (pickIf_hit e (decide_eq_true hp)), List.map_append]; rfl
theorem usedK_miss {L : List Lgr} {H : List Hnd} {k : Nat} {h : Hnd} (e : H[k]? = some h) (hp : ¬ 0 < (usersN L h.nm).length) : usedK L H (k + 1) = usedK L H k := by
  unfold usedK
  rw [rounds_miss (pickIf_miss e (decide_eq_false hp))]
def usedT (L : List Lgr) (H : List Hnd) (q : Int) : List Name := if treeOk L H q then usedK L H H.length else []
theorem tree_hlen {L : List Lgr} {H : List Hnd} {q : Int} (h : treeOk L H q = true) : H.length ≤ 6 := by
  unfold treeOk hndsOk at h
  simp only [Bool.and_eq_true, decide_eq_true_eq] at h
  exact h.2.1.2.2
theorem usedT_len (L : List Lgr) (H : List Hnd) (q : Int) : (usedT L H q).length ≤ 6 := by
  unfold usedT
  split
  · rename_i h
    have h1 := usedK_len L H H.length
    have h2 := tree_hlen h
    omega
  · simp
end Go.Proofs.YtlifaeleoiodkaaGreatDoor

/-
  WALKS: UsersOf, UsedHandlers of both; the library's Index and Contains over texts.
-/
namespace Go.Proofs.YtlifaeleoiodkaaGreatDoor
open Go.RowKit Nm
set_option linter.unusedSimpArgs false
set_option linter.unusedVariables false

set_option maxHeartbeats 1000000 in
set_option maxRecDepth 100000 in
theorem indexTxt_c (v : Value) (n B : Nat) (l : List (List UInt8)) (s : ByteArray) (w : World) (hv : Txts w B n v l) :
    Calls Tryz.prog 156 #[v, .string s] w fun e w' => e = .returned (.int .i64 (idxL l s.data.toList)) ∧ w = w' := by
  have hln := hv.count
  obtain ⟨A, c, rfl, hnc, hcm⟩ := hv.1.form
  unfold maxLen at hcm
  have HV := hid (And.intro hv hln)
  clear hv hln
  go_enter Tryz.func156, Tryz.ntmps156
  go_wp2_with fail
  go_loop [8] (fun iv => ∃ k : Nat, iv = .int .i64 k ∧ k ≤ n ∧ Hid (s.data.toList ∉ l.take k)) (fun iv => n - (intOf iv).toNat)
  case atStart => exact ⟨0, rfl, by omega, by simp [Hid]⟩
  case round =>
    obtain ⟨k, rfl, hk, HN⟩ := hrel
    by_cases hlt : k < n
    · obtain ⟨b, o, t, rfl, hb, hxn, _, g0⟩ := HV.out.1.text hlt
      have HX := hid hxn
      clear hxn
      have s0 : (0 : Int) ≤ (k : Int) := by omega
      have s1 : (k : Int) < (n : Int) := by omega
      have s2 : ((k : Int)).toNat = k := by simp
      by_cases he : s.data.toList = t.data.toList
      · have e1 := eq_true_of he
        have HE := hid (show idxL l s.data.toList = (k : Int) from idx_hit _ _ _ (by rw [he]; exact HX.out) HN.out)
        clear he
        go_wp2_with fail
        go_ret
        exact ⟨ret_int HE.out.symm, rfl⟩
      · have e1 := eq_false_of he
        have HE := hid (not_take_succ _ _ _ _ HN.out HX.out (fun e => he e.symm))
        clear he
        go_wp2_with fail
        refine ⟨⟨k + 1, by go_num, by omega, HE⟩, by simp [intOf]; omega⟩
    · have HE := hid (show idxL l s.data.toList = -1 from idx_miss _ _ (by have := HN.out; rwa [List.take_of_length_le (by have := HV.out.2; omega)] at this))
      go_wp2_with fail
      go_ret
      exact ⟨ret_int HE.out.symm, rfl⟩
theorem idx_ge (l : List (List UInt8)) (x : List UInt8) : decide (0 ≤ idxL l x) = decide (x ∈ l) := by
  refine decide_eq_decide.2 ⟨fun h => ?_, fun h => ?_⟩
  · apply Classical.byContradiction; intro hn; rw [idx_miss _ _ hn] at h; omega
  · unfold idxL; rw [if_pos h]; omega
set_option maxHeartbeats 400000 in
set_option maxRecDepth 100000 in
theorem containsTxt_c (v : Value) (n B : Nat) (l : List (List UInt8)) (s : ByteArray) (w : World) (hv : Txts w B n v l) :
    Calls Tryz.prog 152 #[v, .string s] w fun e w' => e = .returned (.bool (decide (s.data.toList ∈ l))) ∧ w = w' := by
  have C := hid (indexTxt_c v n B l s w hv)
  obtain ⟨A, c, rfl, hnc, hcm⟩ := hv.1.form
  have HE := hid (idx_ge l s.data.toList)
  generalize decide (s.data.toList ∈ l) = z at HE ⊢
  generalize idxL l s.data.toList = x at C HE
  clear hv
  go_enter Tryz.func152, Tryz.ntmps152
  go_wp2_with fail
  refine C.out.mono ?_
  rintro e w1 ⟨rfl, rfl⟩
  go_wp2_with fail
  go_ret
  exact ⟨ret_bool HE.out, rfl⟩

end Go.Proofs.YtlifaeleoiodkaaGreatDoor

/-
  WALKS: UsedHandlers of both.
-/
namespace Go.Proofs.YtlifaeleoiodkaaGreatDoor
open Go.RowKit Nm
set_option linter.unusedSimpArgs false
set_option linter.unusedVariables false

theorem TreeIn.hands {w : World} {B n1 k1 n2 k2 : Nat} {A1 A2 : Option Addr} {L : List Lgr} {H : List Hnd} {q : Int} (h : TreeIn w B (.agg #[.slice A1 n1 k1, .slice A2 n2 k2, .int .i64 q]) L H q) :
    ∃ hs, Hs w B n2 (.slice A2 n2 k2) hs ∧ hsOf hs = H := by
  obtain ⟨ls, hs, ⟨A1', n1', k1', A2', n2', k2', e, _, h1, _⟩, h2, h3⟩ := h
  simp at e
  obtain ⟨⟨rfl, rfl, rfl⟩, ⟨rfl, rfl, rfl⟩⟩ := e
  exact ⟨hs, h1, h3⟩
/-- handler k: its cells -/
theorem handler_at {w : World} {B n k2 : Nat} {A : Option Addr} {hs : List HndV} {H : List Hnd} (hh : Hs w B n (.slice A n k2) hs) (hH : hsOf hs = H) {k : Nat} (hk : k < n) :
    ∃ (b o : Nat) (p : ByteArray) (h : Hnd) (A4 : Option Addr) (fn k4 : Nat), A = some ⟨b, o, none⟩ ∧ b < B ∧ H[k]? = some h ∧ p.data.toList = h.nm ∧ p.size ≤ maxTxt ∧ Fs w B fn (.slice A4 fn k4) h.fs ∧
      w.cell? ⟨b, o + k * 3, none⟩ = some (.string p) ∧ w.cell? ⟨b, o + k * 3 + 1, none⟩ = some (.int .i64 h.lv) ∧ w.cell? ⟨b, o + k * 3 + 2, none⟩ = some (.slice A4 fn k4) := by
  obtain ⟨b, o, x, s, e, hb, hx, hs', hz, hf, c0, c1, c2⟩ := hh.at_ hk
  obtain ⟨A4, k4, e4, _, _⟩ := hf.1.form
  rw [e4] at hf c2
  exact ⟨b, o, s, x.h, A4, x.fn, k4, e, hb, by rw [← hH]; unfold hsOf; rw [List.getElem?_map, hx]; rfl, hs', hz, hf, c0, c1, c2⟩

end Go.Proofs.YtlifaeleoiodkaaGreatDoor
