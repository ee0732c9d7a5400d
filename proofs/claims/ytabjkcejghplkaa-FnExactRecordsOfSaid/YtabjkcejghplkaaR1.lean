/-
  RECORDS: the model (texts, records, when they are valid), and the walks of isText, validText, validRecord of both.
-/
import Derived.Test.YtabjkcejghplkaaW14
import Derived.Test.YtabjkcejghplkaaT2
namespace Go.Proofs.Ytabjkcejghplkaa
open Go.RowKit Nm
set_option linter.unusedSimpArgs false
set_option linter.unusedVariables false

/-- the cells of a box that a call lays first, in any later world -/
theorem box_cell {w W : World} {xs : Array Value} {T : TypeId} (hb : Below (w.alloc (.cells xs T)).heap.size (w.alloc (.cells xs T)) W) (j : Nat) : W.cell? ⟨w.heap.size, j, none⟩ = xs[j]? :=
  (hb.cell (p := ⟨w.heap.size, j, none⟩) (by simp)).trans (cell_of_row _ w.heap.size j _ _ _ (heap_alloc_new w _))

def spc (c : UInt8) : Bool := decide (c = 32) || low c
def textOk (l : List UInt8) : Bool := l.all spc && decide (l.length ≤ 12)
structure Rec where
  nm : List UInt8
  lv : Int
  tx : List UInt8
  sq : Int
deriving DecidableEq
def recOk (r : Rec) : Bool := nameOk r.nm && (decide (1 ≤ r.lv) && (decide (r.lv ≤ 60) && (textOk r.tx && (decide (0 ≤ r.sq) && decide (r.sq ≤ 999)))))
def recsOk (l : List Rec) : Bool := l.all recOk && decide (l.length ≤ 12)
def rcells (r : Rec) : List Value := [txt r.nm, .int .i64 r.lv, txt r.tx, .int .i64 r.sq]

theorem spc_iff (c : UInt8) : spc c = true ↔ c.toNat = 32 ∨ (97 ≤ c.toNat ∧ c.toNat ≤ 122) := by
  unfold spc
  rw [Bool.or_eq_true, decide_eq_true_eq, low_iff]
  constructor
  · rintro (rfl | h)
    · exact .inl rfl
    · exact .inr h
  · rintro (h | h)
    · exact .inl (UInt8.toNat_inj.1 (by simpa using h))
    · exact .inr h
theorem tx_bad (l : List UInt8) (k : Nat) (c : UInt8) (hc : l[k]? = some c) (h : spc c = false) : textOk l = false := by
  cases hw : textOk l with
  | false => rfl
  | true =>
    simp only [textOk, Bool.and_eq_true, List.all_eq_true] at hw
    rw [hw.1 _ (List.mem_of_getElem? hc)] at h; cases h
theorem tx_long (l : List UInt8) (h : 12 < l.length) : textOk l = false := by
  unfold textOk; rw [decide_eq_false (by omega), Bool.and_false]
theorem tx_end (l : List UInt8) (h : l.all spc = true) : textOk l = decide (l.length ≤ 12) := by
  unfold textOk; rw [h, Bool.true_and]
theorem take_all {α : Type} (f : α → Bool) (l : List α) (p : Nat) (c : α) (h : (l.take p).all f = true) (hc : l[p]? = some c) (hl : f c = true) : (l.take (p + 1)).all f = true := by
  rw [List.take_add_one, hc]; simp [List.all_append, h, hl]

set_option maxHeartbeats 1000000 in
set_option maxRecDepth 100000 in
theorem validText_c (s : ByteArray) (w : World) (hs : s.size ≤ maxLen) :
    Calls Try.prog 68 #[.string s] w fun e w' => e = .returned (.bool (textOk s.data.toList)) ∧ w' = w := by
  unfold maxLen at hs
  go_enter Try.func68, Try.ntmps68
  go_wp2_with fail
  go_loop [3] (fun i => ∃ k : Nat, i = .int .i64 k ∧ k ≤ s.size ∧ Hid ((s.data.toList.take k).all spc = true)) (fun i => s.size - (intOf i).toNat)
  case atStart => exact ⟨0, rfl, by omega, by simp [Hid]⟩
  case round =>
    obtain ⟨k, rfl, hk, HL⟩ := hrel
    by_cases hlt : k < s.size
    · have hb : 0 ≤ ((s[k]'hlt).toNat : Int) ∧ ((s[k]'hlt).toNat : Int) < 256 := by have := (s[k]'hlt).toNat_lt; omega
      go_wp2_with fail
      all_goals first
        | (refine ⟨⟨k + 1, by go_num, by omega, ?_⟩, by simp [intOf]; omega⟩
           exact take_all _ _ k _ HL.out (byte_at s k hlt) ((spc_iff _).2 (by first | omega | (simp_all <;> omega))))
        | (go_ret
           refine ⟨ret_bool (Eq.symm (tx_bad _ k _ (byte_at s k hlt) ?_)), rfl⟩
           rw [Bool.eq_false_iff, Ne, spc_iff]; first | omega | (simp_all <;> omega))
    · have e : k = s.size := by omega
      subst e
      have HE := hid (show textOk s.data.toList = decide ((s.size : Int) ≤ 12) by
        rw [tx_end _ (by have := HL.out; rwa [List.take_of_length_le (by rw [← Lib.size_eq]; exact Nat.le_refl _)] at this), ← Lib.size_eq]
        exact decide_eq_decide.2 (by omega))
      go_wp2_with fail
      go_ret
      exact ⟨ret_bool HE.out.symm, rfl⟩

theorem tx_go (s : ByteArray) (p : Nat) (h : p < s.size) (hl : (s.data.toList.take p).all spc = true) (h1 : ((Utf8.decode s p).1 : Int) = 32 ∨ (97 ≤ ((Utf8.decode s p).1 : Int) ∧ ((Utf8.decode s p).1 : Int) ≤ 122)) :
    (Utf8.decode s p).2 = 1 ∧ (s.data.toList.take (p + 1)).all spc = true := by
  obtain ⟨c, hc, ⟨_, hd⟩ | ⟨ha, hd⟩⟩ := dec_cases s p h
  · rw [hd] at h1 ⊢
    exact ⟨rfl, take_all _ _ p c hl hc ((spc_iff c).2 (by simp at h1; omega))⟩
  · omega
theorem tx_no (s : ByteArray) (p : Nat) (h : p < s.size) (h0 : ¬ ((Utf8.decode s p).1 : Int) = 32) (h1 : ((Utf8.decode s p).1 : Int) < 97 ∨ 122 < ((Utf8.decode s p).1 : Int)) : textOk s.data.toList = false := by
  obtain ⟨c, hc, ⟨_, hd⟩ | ⟨ha, hd⟩⟩ := dec_cases s p h
  · rw [hd] at h0 h1
    refine tx_bad _ p c hc ?_
    rw [Bool.eq_false_iff, Ne, spc_iff]; simp at h0 h1; omega
  · refine tx_bad _ p c hc ?_
    rw [Bool.eq_false_iff, Ne, spc_iff]; omega

set_option maxHeartbeats 1000000 in
set_option maxRecDepth 100000 in
theorem isText_c (s : ByteArray) (w : World) (hs : s.size ≤ maxLen) :
    Calls Try.prog 65 #[.string s] w (BoolPost w (textOk s.data.toList)) := by
  unfold maxLen at hs
  by_cases h12 : (12 : Int) < (s.size : Int)
  · have HE := hid (tx_long s.data.toList (by rw [← Lib.size_eq]; omega))
    go_enter Try.func65, Try.ntmps65
    go_wp2_with fail
    go_ret
    exact ⟨ret_bool HE.out.symm, Below.refl _ _⟩
  go_enter Try.func65, Try.ntmps65
  go_wp2_with fail
  go_loopw [4] (fun c wr => ∃ p : Nat, wr = w.iter s p ∧ p ≤ s.size ∧ Hid ((s.data.toList.take p).all spc = true)) (fun _ wr => s.size - wr.iterPos w.heap.size)
  case atStart => exact ⟨0, rfl, by omega, by simp [Hid]⟩
  case round =>
    obtain ⟨p, rfl, hp, HL⟩ := hrel
    by_cases hlt : p < s.size
    · have hnx : ∀ ty, (Instr.next (.pointer (some ⟨w.heap.size, 0, none⟩)) true ty).run Try.prog (w.iter s p) = _ := fun ty => run_next_any w s p ty hlt
      have hd := decode_le s p
      go_wp2_with fail
      all_goals first
        | (have hg := tx_go s p hlt HL.out (by first | omega | (simp_all <;> omega))
           refine ⟨⟨p + 1, by rw [hg.1], by omega, hg.2⟩, by rw [hg.1]; simp; omega⟩)
        | (go_ret
           exact ⟨ret_bool (tx_no s p hlt (by first | omega | (simp_all <;> omega)) (by first | omega | (simp_all <;> omega))).symm, below_iter (Nat.le_refl _) _ _⟩)
    · have hnx : ∀ ty, (Instr.next (.pointer (some ⟨w.heap.size, 0, none⟩)) true ty).run Try.prog (w.iter s p) = _ := fun ty => run_next_end w s p ty hlt
      have HE := hid (show textOk s.data.toList = true by
        rw [tx_end _ (by have := HL.out; rwa [List.take_of_length_le (by rw [← Lib.size_eq]; omega)] at this), ← Lib.size_eq]
        exact decide_eq_true (by omega))
      go_wp2_with fail
      go_ret
      exact ⟨ret_bool HE.out.symm, below_iter (Nat.le_refl _) _ _⟩

set_option maxHeartbeats 1000000 in
set_option maxRecDepth 100000 in
theorem implValidRecord_c (nm tx : ByteArray) (lv sq : Int) (w : World) (h1 : nm.size ≤ maxTxt) (h2 : tx.size ≤ maxTxt) :
    Calls Try.prog 46 #[.agg #[.string nm, .int .i64 lv, .string tx, .int .i64 sq]] w (BoolPost w (recOk ⟨nm.data.toList, lv, tx.data.toList, sq⟩)) := by
  unfold maxTxt at h1 h2
  have HB0 := hid (show Below w.heap.size w (w.alloc (.cells #[.string nm, .int .i64 lv, .string tx, .int .i64 sq] 34)) from (Below.refl _ _).alloc (Nat.le_refl _) _)
  have C1 := hid (fun W => implValidName_c nm W (by unfold maxLen; omega))
  have C2 := hid (fun W => isLevel_c lv W)
  have C3 := hid (fun W => isText_c tx W (by unfold maxLen; omega))
  have HE := hid (show recOk ⟨nm.data.toList, lv, tx.data.toList, sq⟩ = (nameOk nm.data.toList && (decide (1 ≤ lv) && (lvOk lv && (textOk tx.data.toList && (decide (0 ≤ sq) && decide (sq ≤ 999)))))) by
    have e : (decide (1 ≤ lv) && decide (lv ≤ 60)) = (decide (1 ≤ lv) && lvOk lv) := by
      unfold lvOk; by_cases h : 1 ≤ lv
      · rw [decide_eq_true h, decide_eq_true (show 0 ≤ lv by omega)]; rfl
      · rw [decide_eq_false h]; rfl
    unfold recOk
    rw [← Bool.and_assoc (decide (1 ≤ lv)), e, Bool.and_assoc])
  generalize recOk ⟨nm.data.toList, lv, tx.data.toList, sq⟩ = z at HE ⊢
  generalize nameOk nm.data.toList = a at C1 HE
  generalize lvOk lv = b at C2 HE
  generalize textOk tx.data.toList = c at C3 HE
  go_enter Try.func46, Try.ntmps46
  have HC := hid (Below.refl (w.alloc (.cells #[.string nm, .int .i64 lv, .string tx, .int .i64 sq] 34)).heap.size (w.alloc (.cells #[.string nm, .int .i64 lv, .string tx, .int .i64 sq] 34)))
  go_wp2_with (first | (go_at_call 63; refine (C1.out _).mono ?_; rintro e w1 ⟨rfl, hb1⟩; replace HC := hid (HC.out.trans (hb1.mono HC.out.size)); clear hb1; have d1 := box_cell HC.out 1; have d2 := box_cell HC.out 2; have d3 := box_cell HC.out 3) | (go_at_call 64; refine (C2.out _).mono ?_; rintro e w2 ⟨rfl, rfl⟩) | (go_at_call 65; refine (C3.out _).mono ?_; rintro e w3 ⟨rfl, hb1⟩; replace HC := hid (HC.out.trans (hb1.mono HC.out.size)); clear hb1; have d3 := box_cell HC.out 3))
  all_goals go_ret
  all_goals exact ⟨ret_bool (by rw [HE.out]; simp_all; try (intros; omega)), HB0.out.trans (HC.out.mono (by simp))⟩
end Go.Proofs.Ytabjkcejghplkaa
