/-
  R1, G0, L0, A2, A3, O0 laid together.
-/
import Derived.Test.YtlifaeleoiodkaaGreatDoorBase
import Derived.Test.YtlifaeleoiodkaaGreatDoorTrees
import Derived.Maps.AppendAt
import Derived.Deep.RegionHeld3
/-
  RECORDS: the model (texts, records, when they are valid), and the walks of isText, validText, validRecord of both.
-/
namespace Go.Proofs.YtlifaeleoiodkaaGreatDoor
open Go.RowKit Nm
set_option linter.unusedSimpArgs false
set_option linter.unusedVariables false

def spc (c : UInt8) : Bool := decide (c = 32) || low c
def textOk (l : List UInt8) : Bool := l.all spc && decide (l.length ≤ 12)
structure Rec where
  nm : List UInt8
  lv : Int
  tx : List UInt8
  sq : Int
deriving DecidableEq
def recOk (r : Rec) : Bool := nameOk r.nm && (decide (1 ≤ r.lv) && (decide (r.lv ≤ 60) && (textOk r.tx && (decide (0 ≤ r.sq) && decide (r.sq ≤ 999)))))
def recsOk (l : List Rec) : Bool := l.all recOk && decide (l.length ≤ 12)
def rcells (r : Rec) : List Value := [txt r.nm, .int .i64 r.lv, txt r.tx, .int .i64 r.sq]

theorem spc_iff (c : UInt8) : spc c = true ↔ c.toNat = 32 ∨ (97 ≤ c.toNat ∧ c.toNat ≤ 122) := by
  unfold spc
  rw [Bool.or_eq_true, decide_eq_true_eq, low_iff]
  constructor
  · rintro (rfl | h)
    · exact .inl rfl
    · exact .inr h
  · rintro (h | h)
    · exact .inl (UInt8.toNat_inj.1 (by simpa using h))
    · exact .inr h
theorem tx_bad (l : List UInt8) (k : Nat) (c : UInt8) (hc : l[k]? = some c) (h : spc c = false) : textOk l = false := by
  cases hw : textOk l with
  | false => rfl
  | true =>
    simp only [textOk, Bool.and_eq_true, List.all_eq_true] at hw
    rw [hw.1 _ (List.mem_of_getElem? hc)] at h; cases h
theorem tx_long (l : List UInt8) (h : 12 < l.length) : textOk l = false := by
  unfold textOk; rw [decide_eq_false (by omega), Bool.and_false]
theorem tx_end (l : List UInt8) (h : l.all spc = true) : textOk l = decide (l.length ≤ 12) := by
  unfold textOk; rw [h, Bool.true_and]
theorem take_all {α : Type} (f : α → Bool) (l : List α) (p : Nat) (c : α) (h : (l.take p).all f = true) (hc : l[p]? = some c) (hl : f c = true) : (l.take (p + 1)).all f = true := by
  rw [List.take_add_one, hc]; simp [List.all_append, h, hl]

set_option maxHeartbeats 1000000 in
set_option maxRecDepth 100000 in
theorem validText_c (s : ByteArray) (w : World) (hs : s.size ≤ maxLen) :
    Calls Tryz.prog 70 #[.string s] w fun e w' => e = .returned (.bool (textOk s.data.toList)) ∧ w' = w := by
  unfold maxLen at hs
  go_enter Tryz.func70, Tryz.ntmps70
  go_wp2_with fail
  go_loop [3] (fun i => ∃ k : Nat, i = .int .i64 k ∧ k ≤ s.size ∧ Hid ((s.data.toList.take k).all spc = true)) (fun i => s.size - (intOf i).toNat)
  case atStart => exact ⟨0, rfl, by omega, by simp [Hid]⟩
  case round =>
    obtain ⟨k, rfl, hk, HL⟩ := hrel
    by_cases hlt : k < s.size
    · have hb : 0 ≤ ((s[k]'hlt).toNat : Int) ∧ ((s[k]'hlt).toNat : Int) < 256 := by have := (s[k]'hlt).toNat_lt; omega
      go_wp2_with fail
      all_goals first
        | (refine ⟨⟨k + 1, by go_num, by omega, ?_⟩, by simp [intOf]; omega⟩
           exact take_all _ _ k _ HL.out (byte_at s k hlt) ((spc_iff _).2 (by first | omega | (simp_all <;> omega))))
        | (go_ret
           refine ⟨ret_bool (Eq.symm (tx_bad _ k _ (byte_at s k hlt) ?_)), rfl⟩
           rw [Bool.eq_false_iff, Ne, spc_iff]; first | omega | (simp_all <;> omega))
    · have e : k = s.size := by omega
      subst e
      have HE := hid (show textOk s.data.toList = decide ((s.size : Int) ≤ 12) by
        rw [tx_end _ (by have := HL.out; rwa [List.take_of_length_le (by rw [← Lib.size_eq]; exact Nat.le_refl _)] at this), ← Lib.size_eq]
        exact decide_eq_decide.2 (by omega))
      go_wp2_with fail
      go_ret
      exact ⟨ret_bool HE.out.symm, rfl⟩

theorem tx_go (s : ByteArray) (p : Nat) (h : p < s.size) (hl : (s.data.toList.take p).all spc = true) (h1 : ((Utf8.decode s p).1 : Int) = 32 ∨ (97 ≤ ((Utf8.decode s p).1 : Int) ∧ ((Utf8.decode s p).1 : Int) ≤ 122)) :
    (Utf8.decode s p).2 = 1 ∧ (s.data.toList.take (p + 1)).all spc = true := by
  obtain ⟨c, hc, ⟨_, hd⟩ | ⟨ha, hd⟩⟩ := dec_cases s p h
  · rw [hd] at h1 ⊢
    exact ⟨rfl, take_all _ _ p c hl hc ((spc_iff c).2 (by simp at h1; omega))⟩
  · omega
theorem tx_no (s : ByteArray) (p : Nat) (h : p < s.size) (h0 : ¬ ((Utf8.decode s p).1 : Int) = 32) (h1 : ((Utf8.decode s p).1 : Int) < 97 ∨ 122 < ((Utf8.decode s p).1 : Int)) : textOk s.data.toList = false := by
  obtain ⟨c, hc, ⟨_, hd⟩ | ⟨ha, hd⟩⟩ := dec_cases s p h
  · rw [hd] at h0 h1
    refine tx_bad _ p c hc ?_
    rw [Bool.eq_false_iff, Ne, spc_iff]; simp at h0 h1; omega
  · refine tx_bad _ p c hc ?_
    rw [Bool.eq_false_iff, Ne, spc_iff]; omega

set_option maxHeartbeats 1000000 in
set_option maxRecDepth 100000 in
theorem isText_c (s : ByteArray) (w : World) (hs : s.size ≤ maxLen) :
    Calls Tryz.prog 101 #[.string s] w (BoolPost w (textOk s.data.toList)) := by
  unfold maxLen at hs
  by_cases h12 : (12 : Int) < (s.size : Int)
  · have HE := hid (tx_long s.data.toList (by rw [← Lib.size_eq]; omega))
    go_enter Tryz.func101, Tryz.ntmps101
    go_wp2_with fail
    go_ret
    exact ⟨ret_bool HE.out.symm, Below.refl _ _⟩
  go_enter Tryz.func101, Tryz.ntmps101
  go_wp2_with fail
  go_loopw [4] (fun c wr => ∃ p : Nat, wr = w.iter s p ∧ p ≤ s.size ∧ Hid ((s.data.toList.take p).all spc = true)) (fun _ wr => s.size - wr.iterPos w.heap.size)
  case atStart => exact ⟨0, rfl, by omega, by simp [Hid]⟩
  case round =>
    obtain ⟨p, rfl, hp, HL⟩ := hrel
    by_cases hlt : p < s.size
    · have hnx : ∀ ty, (Instr.next (.pointer (some ⟨w.heap.size, 0, none⟩)) true ty).run Tryz.prog (w.iter s p) = _ := fun ty => run_next_any w s p ty hlt
      have hd := decode_le s p
      go_wp2_with fail
      all_goals first
        | (have hg := tx_go s p hlt HL.out (by first | omega | (simp_all <;> omega))
           refine ⟨⟨p + 1, by rw [hg.1], by omega, hg.2⟩, by rw [hg.1]; simp; omega⟩)
        | (go_ret
           exact ⟨ret_bool (tx_no s p hlt (by first | omega | (simp_all <;> omega)) (by first | omega | (simp_all <;> omega))).symm, below_iter (Nat.le_refl _) _ _⟩)
    · have hnx : ∀ ty, (Instr.next (.pointer (some ⟨w.heap.size, 0, none⟩)) true ty).run Tryz.prog (w.iter s p) = _ := fun ty => run_next_end w s p ty hlt
      have HE := hid (show textOk s.data.toList = true by
        rw [tx_end _ (by have := HL.out; rwa [List.take_of_length_le (by rw [← Lib.size_eq]; omega)] at this), ← Lib.size_eq]
        exact decide_eq_true (by omega))
      go_wp2_with fail
      go_ret
      exact ⟨ret_bool HE.out.symm, below_iter (Nat.le_refl _) _ _⟩

set_option maxHeartbeats 1000000 in
set_option maxRecDepth 100000 in
theorem implValidRecord_c (nm tx : ByteArray) (lv sq : Int) (w : World) (h1 : nm.size ≤ maxTxt) (h2 : tx.size ≤ maxTxt) :
    Calls Tryz.prog 102 #[.agg #[.string nm, .int .i64 lv, .string tx, .int .i64 sq]] w (BoolPost w (recOk ⟨nm.data.toList, lv, tx.data.toList, sq⟩)) := by
  unfold maxTxt at h1 h2
  have HB0 := hid (show Below w.heap.size w (w.alloc (.cells #[.string nm, .int .i64 lv, .string tx, .int .i64 sq] 61)) from (Below.refl _ _).alloc (Nat.le_refl _) _)
  have C1 := hid (fun W => implValidName_c nm W (by unfold maxLen; omega))
  have C2 := hid (fun W => isLevel_c lv W)
  have C3 := hid (fun W => isText_c tx W (by unfold maxLen; omega))
  have HE := hid (show recOk ⟨nm.data.toList, lv, tx.data.toList, sq⟩ = (nameOk nm.data.toList && (decide (1 ≤ lv) && (lvOk lv && (textOk tx.data.toList && (decide (0 ≤ sq) && decide (sq ≤ 999)))))) by
    have e : (decide (1 ≤ lv) && decide (lv ≤ 60)) = (decide (1 ≤ lv) && lvOk lv) := by
      unfold lvOk; by_cases h : 1 ≤ lv
      · rw [decide_eq_true h, decide_eq_true (show 0 ≤ lv by omega)]; rfl
      · rw [decide_eq_false h]; rfl
    unfold recOk
    rw [← Bool.and_assoc (decide (1 ≤ lv)), e, Bool.and_assoc])
  generalize recOk ⟨nm.data.toList, lv, tx.data.toList, sq⟩ = z at HE ⊢
  generalize nameOk nm.data.toList = a at C1 HE
  generalize lvOk lv = b at C2 HE
  generalize textOk tx.data.toList = c at C3 HE
  go_enter Tryz.func102, Tryz.ntmps102
  have HC := hid (Below.refl (w.alloc (.cells #[.string nm, .int .i64 lv, .string tx, .int .i64 sq] 61)).heap.size (w.alloc (.cells #[.string nm, .int .i64 lv, .string tx, .int .i64 sq] 61)))
  go_wp2_with (first | (go_at_call 98; refine (C1.out _).mono ?_; rintro e w1 ⟨rfl, hb1⟩; replace HC := hid (HC.out.trans (hb1.mono HC.out.size)); clear hb1; have d1 := box_cell HC.out 1; have d2 := box_cell HC.out 2; have d3 := box_cell HC.out 3) | (go_at_call 55; refine (C2.out _).mono ?_; rintro e w2 ⟨rfl, rfl⟩) | (go_at_call 101; refine (C3.out _).mono ?_; rintro e w3 ⟨rfl, hb1⟩; replace HC := hid (HC.out.trans (hb1.mono HC.out.size)); clear hb1; have d3 := box_cell HC.out 3))
  all_goals go_ret
  all_goals exact ⟨ret_bool (by rw [HE.out]; simp_all; try (intros; omega)), HB0.out.trans (HC.out.mono (by simp))⟩
end Go.Proofs.YtlifaeleoiodkaaGreatDoor

/-
  What the texts of gen_flat.py share.
-/
namespace Go.Proofs.YtlifaeleoiodkaaGreatDoor
open Go.RowKit Nm
set_option linter.unusedSimpArgs false
set_option linter.unusedVariables false

def SzPost (left : Int) (P : Prop) (w : World) (e : Ending) (w' : World) : Prop :=
  ∃ r : Int, e = .returned (.int .i64 r) ∧ Below w.heap.size w w' ∧ (r < 0 ∨ (0 ≤ r ∧ r ≤ left ∧ P))
/-- a slice of the call's own -/
def RowPost (w : World) (T : TypeId) (d n : Nat) (xs : List Value) (e : Ending) (w' : World) : Prop :=
  ∃ v, e = .returned v ∧ w'.ownsRow w.heap.size T d v n xs ∧ Below w.heap.size w w'
/-- .. and whether it could be made -/
def RowPost2 (w : World) (T : TypeId) (d n : Nat) (xs : List Value) (b : Bool) (e : Ending) (w' : World) : Prop :=
  ∃ v, e = .returned (.tuple #[v, .bool b]) ∧ w'.ownsRow w.heap.size T d v n xs ∧ Below w.heap.size w w'
theorem own_cell {w : World} {base d g c n : Nat} {T : TypeId} {xs : List Value} (h : w.ownsRow base T d (.slice (some ⟨g, 0, none⟩) n c) n xs) {j : Nat} (hj : j < n * d) : ∃ u, w.cell? ⟨g, j, none⟩ = some u :=
  ⟨_, (h.cellAt j (by have := h.1; omega)).trans (List.getElem?_eq_getElem (by have := h.1; omega))⟩
section
variable {w : World} {base n c g d : Nat} {e : TypeId} {xs : List Value}
theorem own_put2 (h : w.ownsRow base e d (.slice (some ⟨g, 0, none⟩) n c) n xs) (j : Nat) (a1 a2 : Value) :
    ((w.setCell ⟨g, j, none⟩ a1).setCell ⟨g, j + 1, none⟩ a2).ownsRow base e d (.slice (some ⟨g, 0, none⟩) n c) n ((xs.set j a1).set (j + 1) a2) :=
  ((h.stored j a1).1.stored (j + 1) a2).1
theorem own_put3 (h : w.ownsRow base e d (.slice (some ⟨g, 0, none⟩) n c) n xs) (j : Nat) (a1 a2 a3 : Value) :
    (((w.setCell ⟨g, j, none⟩ a1).setCell ⟨g, j + 1, none⟩ a2).setCell ⟨g, j + 2, none⟩ a3).ownsRow base e d (.slice (some ⟨g, 0, none⟩) n c) n (((xs.set j a1).set (j + 1) a2).set (j + 2) a3) :=
  ((own_put2 h j a1 a2).stored (j + 2) a3).1
theorem own_put4 (h : w.ownsRow base e d (.slice (some ⟨g, 0, none⟩) n c) n xs) (j : Nat) (a1 a2 a3 a4 : Value) :
    ((((w.setCell ⟨g, j, none⟩ a1).setCell ⟨g, j + 1, none⟩ a2).setCell ⟨g, j + 2, none⟩ a3).setCell ⟨g, j + 3, none⟩ a4).ownsRow base e d (.slice (some ⟨g, 0, none⟩) n c) n ((((xs.set j a1).set (j + 1) a2).set (j + 2) a3).set (j + 3) a4) :=
  ((own_put3 h j a1 a2 a3).stored (j + 3) a4).1
theorem own_put6 (h : w.ownsRow base e d (.slice (some ⟨g, 0, none⟩) n c) n xs) (j : Nat) (a1 a2 a3 a4 a5 a6 : Value) :
    ((((((w.setCell ⟨g, j, none⟩ a1).setCell ⟨g, j + 1, none⟩ a2).setCell ⟨g, j + 2, none⟩ a3).setCell ⟨g, j + 3, none⟩ a4).setCell ⟨g, j + 4, none⟩ a5).setCell ⟨g, j + 5, none⟩ a6).ownsRow base e d (.slice (some ⟨g, 0, none⟩) n c) n ((((((xs.set j a1).set (j + 1) a2).set (j + 2) a3).set (j + 3) a4).set (j + 4) a5).set (j + 5) a6) :=
  (((own_put4 h j a1 a2 a3 a4).stored (j + 4) a5).1.stored (j + 5) a6).1
end
/-- values put one behind the other, from place j on -/
def put_all : List Value → Nat → List Value → List Value
  | xs, _, [] => xs
  | xs, j, u :: us => put_all (xs.set j u) (j + 1) us
theorem put_all_len (us xs : List Value) (j : Nat) : (put_all xs j us).length = xs.length := by
  induction us generalizing xs j with
  | nil => rfl
  | cons u us ih => simp [put_all, ih]
theorem put_all_get (us xs : List Value) (j q : Nat) (h : j + us.length ≤ xs.length) : (put_all xs j us)[q]? = if q < j then xs[q]? else if q < j + us.length then us[q - j]? else xs[q]? := by
  induction us generalizing xs j with
  | nil => simp [put_all]; intros; omega
  | cons u us ih =>
    simp only [List.length_cons] at h
    rw [put_all, ih _ _ (by simp; omega)]
    simp only [List.length_cons, List.getElem?_set]
    by_cases h1 : q < j
    · rw [if_pos (by omega), if_neg (by omega), if_pos h1]
    · by_cases h2 : q = j
      · subst h2
        rw [if_pos (by omega), if_pos rfl, if_pos (by omega), if_neg (by omega), if_pos (by omega)]; simp
      · rw [if_neg (by omega), if_neg h1]
        by_cases h3 : q < j + 1 + us.length
        · rw [if_pos h3, if_pos (by omega), show q - j = (q - (j + 1)) + 1 by omega]; simp
        · rw [if_neg h3, if_neg (by omega), if_neg (by omega)]
theorem flat_put {α : Type} (f : α → List Value) (d : Nat) (hf : ∀ x, (f x).length = d) (l : List α) (k : Nat) (x : α) (hx : l[k]? = some x) (xs : List Value) (hd : 0 < d) (hl : xs.length = l.length * d)
    (hX : ∀ j, j < k * d → xs[j]? = (l.flatMap f)[j]?) (j : Nat) (hj : j < (k + 1) * d) : (put_all xs (k * d) (f x))[j]? = (l.flatMap f)[j]? := by
  have hk := (List.getElem?_eq_some_iff.1 hx).1
  have e : (k + 1) * d = k * d + d := by rw [Nat.add_mul]; omega
  have e2 : (k + 1) * d ≤ l.length * d := Nat.mul_le_mul_right d hk
  rw [put_all_get _ _ _ _ (by rw [hf]; omega)]
  by_cases h1 : j < k * d
  · rw [if_pos h1]; exact hX j h1
  · rw [if_neg h1, hf, if_pos (by omega), ← flat_at f d hf l k (j - k * d) x hx (by omega), show k * d + (j - k * d) = j by omega]
theorem flat_grow {α : Type} (f : α → List Value) (d : Nat) (hf : ∀ x, (f x).length = d) (l : List α) (y : α) (xs : List Value) (k : Nat) (hk : l.length = k) (hl : (k + 1) * d ≤ xs.length)
    (hX : ∀ j, j < k * d → xs[j]? = (l.flatMap f)[j]?) (j : Nat) (hj : j < (k + 1) * d) : (put_all xs (k * d) (f y))[j]? = ((l ++ [y]).flatMap f)[j]? := by
  have e : (k + 1) * d = k * d + d := by rw [Nat.add_mul]; omega
  have hfl := flat_len f d hf l
  rw [hk] at hfl
  rw [put_all_get _ _ _ _ (by rw [hf]; omega), List.flatMap_append]
  by_cases h1 : j < k * d
  · rw [if_pos h1, List.getElem?_append_left (by omega)]; exact hX j h1
  · rw [if_neg h1, hf, if_pos (by omega), List.getElem?_append_right (by omega), hfl]; simp
/-- the cells of marks: texts where 'true' -/
def mkv (s : Bool) (k : Nat) : Value := if s then txt (mt k) else .int .i64 k
def MarkedK (ks : List Bool) (d : Nat) (ys : List Value) (k m : Nat) : Prop := ∀ j, j < m → ys[j]? = some (mkv (ks.getD (j % d) false) (k + j))
def MarkPost (w : World) (v : Value) (base : Nat) (T : TypeId) (ks : List Bool) (d n k : Nat) (e : Ending) (w' : World) : Prop :=
  e = .returned (.int .i64 ((k + n * d : Nat) : Int)) ∧ (∃ ys, w'.ownsRow base T d v n ys ∧ MarkedK ks d ys k (n * d)) ∧ w.grownBy w' v.ownBlock
theorem grown_tr {a b c : World} {r : Option Nat} (h1 : a.grownBy b r) (h2 : b.grownBy c r) : a.grownBy c r :=
  ⟨h2.os.trans h1.os, h2.tape.trans h1.tape, h2.output.trans h1.output, Nat.le_trans h1.size h2.size, fun q hq hne => (h2.block q (by have := h1.size; omega) hne).trans (h1.block q hq hne)⟩
theorem own_some {w : World} {base d c n : Nat} {T : TypeId} {A : Option Addr} {xs : List Value} (h : w.ownsRow base T d (.slice A n c) n xs) (hn : 0 < n) : ∃ g, A = some ⟨g, 0, none⟩ ∧ g < w.heap.size := by
  rcases h.2 with ⟨h1, h2⟩ | ⟨g, cap, cur, h1, hbg, hgb, _⟩
  · omega
  · obtain ⟨rfl, rfl⟩ : A = some ⟨g, 0, none⟩ ∧ c = cap := by simpa using h1
    exact ⟨g, rfl, (Array.getElem?_eq_some_iff.1 hgb).1⟩
theorem mark_at {q : Int} {m : Nat} (W : World) (hq : q = (m : Int)) (hm : m ≤ 17592186044416) {x : ByteArray} (hx : txt (mt m) = .string x) :
    Calls Tryz.prog 50 #[.int .i64 q] W fun e w' => e = .returned (.string x) ∧ Below W.heap.size W w' := by
  rw [hq, ← hx]; exact markText_c m W hm
theorem marked_put {ks : List Bool} {d k i : Nat} {ys : List Value} (h : MarkedK ks d ys k (i * d)) (us : List Value) (hu : us.length = d) (hl : i * d + d ≤ ys.length) (hv : ∀ j, j < us.length → us[j]? = some (mkv (ks.getD j false) (k + i * d + j))) :
    MarkedK ks d (put_all ys (i * d) us) k ((i + 1) * d) := by
  intro j hj
  have e : (i + 1) * d = i * d + d := by rw [Nat.add_mul]; omega
  rw [put_all_get _ _ _ _ (by omega)]
  by_cases h1 : j < i * d
  · rw [if_pos h1]; exact h j h1
  · rw [if_neg h1, if_pos (by omega), hv _ (by omega)]
    have e3 : j % d = j - i * d := by
      rw [show j = (j - i * d) + d * i by rw [Nat.mul_comm d i]; omega, Nat.add_mul_mod_self_left, Nat.mod_eq_of_lt (by omega)]; rw [Nat.mul_comm d i]; omega
    rw [e3, show k + i * d + (j - i * d) = k + j by omega]
theorem marked_at {ks : List Bool} {d k n i j : Nat} {ys : List Value} {u : Value} (h : MarkedK ks d ys k (n * d)) (hij : i * d + j < n * d) (hj : j < d) (hu : mkv (ks.getD j false) (k + i * d + j) = u) : ys[i * d + j]? = some u := by
  rw [h _ hij, show (i * d + j) % d = j by rw [Nat.mul_comm i d, Nat.mul_add_mod, Nat.mod_eq_of_lt hj], ← Nat.add_assoc, hu]
theorem sl_elem {w : World} {B d n c : Nat} {A : Option Addr} {xs : List Value} (h : Sl w B d n (.slice A n c) xs) {k : Nat} (hk : k < n) :
    ∃ (b o : Nat), A = some ⟨b, o, none⟩ ∧ b < B ∧ ∀ j u, xs[k * d + j]? = some u → w.cell? ⟨b, o + k * d + j, none⟩ = some u := by
  obtain ⟨hl, A', c', he, h2, h3, h4⟩ := h
  obtain ⟨rfl, rfl⟩ : A = A' ∧ c = c' := by simpa using he
  obtain ⟨b, o, e, hb, hc⟩ := h4 (by omega)
  exact ⟨b, o, e, hb, fun j u hu => by rw [Nat.add_assoc]; exact hc _ u hu⟩
/-- old cells and old marks read as before: two rules that the walk takes -/
theorem bcell {W w1 : World} (hb : Below W.heap.size W w1) : (∀ b o, b < W.heap.size → w1.cell? ⟨b, o, none⟩ = W.cell? ⟨b, o, none⟩) ∧ (∀ b o, b < W.heap.size → w1.frozen? ⟨b, o, none⟩ = W.frozen? ⟨b, o, none⟩) :=
  ⟨fun b o h => hb.cell (p := ⟨b, o, none⟩) h, fun b o h => hb.frozen (p := ⟨b, o, none⟩) h⟩
theorem grownBy_refl' (w : World) (g : Nat) : w.grownBy w (some g) := World.grownBy.refl _ _
theorem mem_take_succ' {α : Type} (l : List α) (k : Nat) (x y : α) (h : l[k]? = some x) (hy : y ∈ l.take (k + 1)) : y = x ∨ y ∈ l.take k := by
  rw [List.take_add_one, h] at hy
  rcases List.mem_append.1 hy with hy | hy
  · exact .inr hy
  · exact .inl (by simpa using hy)
end Go.Proofs.YtlifaeleoiodkaaGreatDoor

/-
  What the texts of gen_law.py share.
-/
namespace Go.Proofs.YtlifaeleoiodkaaGreatDoor
open Go.RowKit Nm
set_option linter.unusedSimpArgs false
set_option linter.unusedVariables false

/-- two slices of the call's own, the second laid behind the first, lie apart -/
theorem own_ne {w w' : World} {b1 s1 n1 s2 n2 : Nat} {e1 e2 : TypeId} {v1 v2 : Value} {x1 x2 : List Value} (h1 : w.ownsRow b1 e1 s1 v1 n1 x1) (h2 : w'.ownsRow w.heap.size e2 s2 v2 n2 x2) : v1.ownBlock = none ∨ v1.ownBlock ≠ v2.ownBlock := by
  cases hq : v1.ownBlock with
  | none => exact .inl rfl
  | some g =>
    right; intro e
    have := (h1.lt g hq).2
    have := own_lt h2 g e.symm
    omega
theorem own_ne' {w w' : World} {b1 s1 n1 s2 n2 : Nat} {e1 e2 : TypeId} {v1 v2 : Value} {x1 x2 : List Value} (h1 : w.ownsRow b1 e1 s1 v1 n1 x1) (h2 : w'.ownsRow w.heap.size e2 s2 v2 n2 x2) : v2.ownBlock = none ∨ v2.ownBlock ≠ v1.ownBlock := by
  cases hq : v2.ownBlock with
  | none => exact .inl rfl
  | some g =>
    right; intro e
    have := (h1.lt g e.symm).2
    have := own_lt h2 g hq
    omega
theorem int_in {a : Int} (h : (Lit.int .i64 a).wf = true) : -9223372036854775808 ≤ a ∧ a ≤ 9223372036854775807 := by
  simp only [Lit.wf, Bool.and_eq_true, decide_eq_true_eq] at h
  have h1 : IntKind.i64.min = -9223372036854775808 := by decide
  have h2 : IntKind.i64.max = 9223372036854775807 := by decide
  rw [h1, h2] at h
  exact h
end Go.Proofs.YtlifaeleoiodkaaGreatDoor

/-
  WORDS: append of one text, of one int.
-/
namespace Go.Proofs.YtlifaeleoiodkaaGreatDoor
open Go.RowKit Nm
set_option linter.unusedSimpArgs false
set_option linter.unusedVariables false

/-- append of one text -/
theorem appText (w : World) {ops : Array Oper} {rest : List Oper} {o : Oper} {a : Act} {Q : Exit → Act → World → Prop} (hg : o.guard = none) (s x : Operand)
    (ho : o.op = .call { callee := .builtin .append, args := #[s, x], argTypes := #[102, 102] }) (base : Nat) (v : Value) (l : List (List UInt8)) (hs : a.eval s = v)
    (hown : w.ownsRow base 9 1 v l.length (l.map txt)) (p : ByteArray) (b0 c : Nat) (te : TypeId) (hx : a.eval x = .slice (some ⟨b0, 0, none⟩) 1 c) (hb0 : b0 = w.heap.size) (hl : l.length ≤ 1048576) (hbase : base ≤ w.heap.size)
    (h : ∀ v' w', w'.ownsRow base 9 1 v' (l ++ [p.data.toList]).length ((l ++ [p.data.toList]).map txt) → Below base w w' → wpList Tryz.prog ops Q rest (a.put o.dst v') w') :
    wpList Tryz.prog ops Q (o :: rest) a (w.alloc (.cells #[.string p] te)) := by
  subst hb0
  obtain ⟨i0, hi, hz0, hz1, hz2⟩ := info_parts Tryz.infoStr
  refine wpList_app1 w hg s x 102 ho base 9 i0 _ 1 16 Tryz.underlying102 hi hz0 hz1 hz2 rfl (by decide) v l.length _ hs hown [.string p] c te hx rfl (one_cell rfl) (by unfold maxLen; omega) (by omega) hbase fun v' w' h1 h2 => h v' w' ?_ h2
  simpa [txt_data] using h1
def icell (i : Nat) : Value := .int .i64 (i : Int)
theorem Tryz.infoInt : (Tryz.prog.info? 3).map (fun i => (i.zero, i.size, i.bytes)) = some (some (.int .i64 0), 1, 8) := by kernel_rfl
/-- append of one int -/
theorem appInt (w : World) {ops : Array Oper} {rest : List Oper} {o : Oper} {a : Act} {Q : Exit → Act → World → Prop} (hg : o.guard = none) (s x : Operand)
    (ho : o.op = .call { callee := .builtin .append, args := #[s, x], argTypes := #[72, 72] }) (base : Nat) (v : Value) (l : List Nat) (hs : a.eval s = v)
    (hown : w.ownsRow base 3 1 v l.length (l.map icell)) (p : Nat) (b0 c : Nat) (te : TypeId) (hx : a.eval x = .slice (some ⟨b0, 0, none⟩) 1 c) (hb0 : b0 = w.heap.size) (hl : l.length ≤ 1048576) (hbase : base ≤ w.heap.size)
    (h : ∀ v' w', w'.ownsRow base 3 1 v' (l ++ [p]).length ((l ++ [p]).map icell) → Below base w w' → wpList Tryz.prog ops Q rest (a.put o.dst v') w') :
    wpList Tryz.prog ops Q (o :: rest) a (w.alloc (.cells #[.int .i64 (p : Int)] te)) := by
  subst hb0
  obtain ⟨i0, hi, hz0, hz1, hz2⟩ := info_parts Tryz.infoInt
  refine wpList_app1 w hg s x 72 ho base 3 i0 _ 1 8 Tryz.underlying72 hi hz0 hz1 hz2 rfl (by decide) v l.length _ hs hown [.int .i64 (p : Int)] c te hx rfl (one_cell rfl) (by unfold maxLen; omega) (by omega) hbase fun v' w' h1 h2 => h v' w' ?_ h2
  simpa [icell] using h1
theorem own_dr' {w : World} {base d n : Nat} {e : TypeId} {v : Value} {xs : List Value} (h : w.ownsRow base e d v n xs) : w.drew.ownsRow base e d v n xs := h.drew
/-- element k of a slice of ints of the call's own -/
theorem ints_at {w : World} {B n c : Nat} {A : Option Addr} {l : List Nat} (h : Sl w B 1 n (.slice A n c) (l.map icell)) {k : Nat} (hk : k < n) :
    ∃ b o i, A = some ⟨b, o, none⟩ ∧ b < B ∧ l[k]? = some i ∧ w.cell? ⟨b, o + k, none⟩ = some (.int .i64 (i : Int)) := by
  obtain ⟨hl, A', c', he, h2, h3, h4⟩ := h
  obtain ⟨rfl, rfl⟩ : A = A' ∧ c = c' := by simpa using he
  obtain ⟨b, o, e, hb, hc⟩ := h4 (by omega)
  have hlen : l.length = n := by simpa using hl
  have hx : l[k]? = some (l[k]'(by omega)) := List.getElem?_eq_getElem (by omega)
  exact ⟨b, o, _, e, hb, hx, hc k _ (by simp only [List.getElem?_map, hx, Option.map_some]; rfl)⟩
end Go.Proofs.YtlifaeleoiodkaaGreatDoor

/-
  WORDS: append of one element, with where the new slice lies.
-/
namespace Go.Proofs.YtlifaeleoiodkaaGreatDoor
open Go.RowKit Nm
set_option linter.unusedSimpArgs false
set_option linter.unusedVariables false

/-- append of one element, which the statement first lays in a block of its own: what has turned, and where the new slice lies -/
theorem wpList_app1L {P : Program} (w : World) {ops : Array Oper} {rest : List Oper} {o : Oper} {a : Act} {Q : Exit → Act → World → Prop}
    (hg : o.guard = none) (s x : Operand) (t : TypeId) (ho : o.op = .call { callee := .builtin .append, args := #[s, x], argTypes := #[t, t] })
    (base : Nat) (e : TypeId) (i : TypeInfo) (z : Value) (size bytes : Nat) (ht : P.underlying t = some (.slice e)) (hi : P.info? e = some i) (hz : i.zero = some z)
    (hsize : i.size = size) (hby : i.bytes = bytes) (hzs : z.cells.size = size) (hsz : 0 < size)
    (v : Value) (n : Nat) (xs : List Value) (hs : a.eval s = v) (hown : w.ownsRow base e size v n xs)
    (us : List Value) (c : Nat) (te : TypeId) (hx : a.eval x = .slice (some ⟨w.heap.size, 0, none⟩) 1 c) (hl : us.length = size) (h1 : ∀ u ∈ us, u.oneCell' = true)
    (h63 : n + 1 ≤ maxLen) (hbytes : (n + 1) * bytes ≤ 140737488355328) (hbase : base ≤ w.heap.size)
    (h : ∀ v' w', w'.ownsRow base e size v' (n + 1) (xs ++ us) → w.grownBy w' v.ownBlock → (v'.ownBlock = v.ownBlock ∨ v'.ownBlock = some (w.heap.size + 1)) → wpList P ops Q rest (a.put o.dst v') w') :
    wpList P ops Q (o :: rest) a (w.alloc (.cells us.toArray te)) :=
  wpList_append_own_at _ hg s x t ho base e i z size bytes ht hi hz hsize hby hzs hsz v n xs hs (hown.alloc _) ⟨w.heap.size, 0, none⟩ 1 c us hx (by rw [hl, Nat.one_mul])
    (many_new w us te) h1 h63 hbytes (by simp; omega)
    fun v' w' h2 h3 _ h5 => h v' w' h2 (grown_tr (World.grownBy_alloc w _ _) h3) (by simpa using h5)
/-- .. of one text -/
theorem appTextL (w : World) {ops : Array Oper} {rest : List Oper} {o : Oper} {a : Act} {Q : Exit → Act → World → Prop} (hg : o.guard = none) (s x : Operand)
    (ho : o.op = .call { callee := .builtin .append, args := #[s, x], argTypes := #[102, 102] }) (base : Nat) (v : Value) (l : List (List UInt8)) (hs : a.eval s = v)
    (hown : w.ownsRow base 9 1 v l.length (l.map txt)) (p : ByteArray) (b0 c : Nat) (te : TypeId) (hx : a.eval x = .slice (some ⟨b0, 0, none⟩) 1 c) (hb0 : b0 = w.heap.size) (hl : l.length ≤ 1048576) (hbase : base ≤ w.heap.size)
    (h : ∀ v' w', w'.ownsRow base 9 1 v' (l ++ [p.data.toList]).length ((l ++ [p.data.toList]).map txt) → w.grownBy w' v.ownBlock → (v'.ownBlock = v.ownBlock ∨ v'.ownBlock = some (w.heap.size + 1)) → wpList Tryz.prog ops Q rest (a.put o.dst v') w') :
    wpList Tryz.prog ops Q (o :: rest) a (w.alloc (.cells #[.string p] te)) := by
  subst hb0
  obtain ⟨i0, hi, hz0, hz1, hz2⟩ := info_parts Tryz.infoStr
  refine wpList_app1L w hg s x 102 ho base 9 i0 _ 1 16 Tryz.underlying102 hi hz0 hz1 hz2 rfl (by decide) v l.length _ hs hown [.string p] c te hx rfl (one_cell rfl) (by unfold maxLen; omega) (by omega) hbase fun v' w' h1 h2 h3 => h v' w' ?_ h2 h3
  simpa [txt_data] using h1
theorem grownBy_drew {w w' : World} {row : Option Nat} (g : w.grownBy w' row) : w.grownBy w'.drew row := ⟨g.os, g.tape, g.output, g.size, g.block⟩
/-- the append of one element as a run, in a region that has drawn its order -/
theorem run_app1D {P : Program} (w : World) (t : TypeId) (base : Nat) (e : TypeId) (i : TypeInfo) (z : Value) (size bytes : Nat) (ht : P.underlying t = some (.slice e)) (hi : P.info? e = some i) (hz : i.zero = some z)
    (hsize : i.size = size) (hby : i.bytes = bytes) (hzs : z.cells.size = size) (hsz : 0 < size)
    (v : Value) (n : Nat) (xs : List Value) (hown : w.ownsRow base e size v n xs) (us : List Value) (te : TypeId) (hl : us.length = size) (h1 : ∀ u ∈ us, u.oneCell' = true)
    (h63 : n + 1 ≤ maxLen) (hbytes : (n + 1) * bytes ≤ 140737488355328) (hbase : base ≤ w.heap.size) :
    ∃ v' w', (Builtin.append_ #[t, t] t #[v, .slice (some ⟨w.heap.size, 0, none⟩) 1 1]).run P (w.alloc (.cells us.toArray te)).drew = .ok v' w' ∧ w'.ownsRow base e size v' (n + 1) (xs ++ us) ∧ w.grownBy w' v.ownBlock ∧ (v'.ownBlock = v.ownBlock ∨ v'.ownBlock = some (w.heap.size + 1)) := by
  obtain ⟨v', w', h2, h3, h4, _, h6⟩ := run_append_own_at (P := P) (w := (w.alloc (.cells us.toArray te)).drew) base t t e i z size bytes ht hi hz hsize hby hzs hsz v n xs (hown.alloc _).drew ⟨w.heap.size, 0, none⟩ 1 1 us (by rw [hl, Nat.one_mul])
    (many_new w us te) h1 h63 hbytes (by simp; omega)
  exact ⟨v', w', h2, h3, grown_tr (grownBy_drew (World.grownBy_alloc w _ _)) h4, by simpa using h6⟩
theorem runText (w : World) (base : Nat) (v : Value) (l : List (List UInt8)) (hown : w.ownsRow base 9 1 v l.length (l.map txt)) (p : ByteArray) (hl : l.length ≤ 1048576) (hbase : base ≤ w.heap.size) :
    ∃ v' w', (Builtin.append_ #[102, 102] 102 #[v, .slice (some ⟨w.heap.size, 0, none⟩) 1 1]).run Tryz.prog (w.alloc (.cells #[.string p] 9)).drew = .ok v' w' ∧ w'.ownsRow base 9 1 v' (l ++ [p.data.toList]).length ((l ++ [p.data.toList]).map txt) ∧ w.grownBy w' v.ownBlock ∧ (v'.ownBlock = v.ownBlock ∨ v'.ownBlock = some (w.heap.size + 1)) := by
  obtain ⟨i0, hi, hz0, hz1, hz2⟩ := info_parts Tryz.infoStr
  obtain ⟨v', w', h1, h2, h3, h4⟩ := run_app1D (P := Tryz.prog) w 102 base 9 i0 _ 1 16 Tryz.underlying102 hi hz0 hz1 hz2 rfl (by decide) v l.length _ hown [.string p] 9 rfl (one_cell rfl) (by unfold maxLen; omega) (by omega) hbase
  exact ⟨v', w', h1, by simpa [txt_data] using h2, h3, h4⟩
/-- a row apart from another one stays, and stays apart, behind an append to that one -/
theorem apart_kept {w w' : World} {b1 s1 n1 : Nat} {e1 : TypeId} {v1 v2 v2' : Value} {x1 : List Value} (h1 : w.ownsRow b1 e1 s1 v1 n1 x1) (hne : ∀ g, v2.ownBlock = some g → v1.ownBlock ≠ some g)
    (hg : w.grownBy w' v2.ownBlock) (hloc : v2'.ownBlock = v2.ownBlock ∨ v2'.ownBlock = some (w.heap.size + 1)) : w'.ownsRow b1 e1 s1 v1 n1 x1 ∧ ∀ g, v2'.ownBlock = some g → v1.ownBlock ≠ some g := by
  refine ⟨h1.kept hg ?_, fun g hg' => ?_⟩
  · cases hq : v1.ownBlock with
    | none => exact .inl rfl
    | some g1 =>
      right; intro e
      exact hne g1 e.symm hq
  · rcases hloc with h | h
    · exact hne g (h.symm.trans hg')
    · rw [h] at hg'
      have : w.heap.size + 1 = g := by simpa using hg'
      intro e
      have := (h1.lt g e).2
      omega
/-- an append whose run is known, at the operation, in a region that has drawn its order -/
theorem wp_app {P : Program} {o : Oper} {a : Act} {w w' : World} {K : Act → World → Prop} {Q : Exit → Act → World → Prop} {v v' src : Value} {t : TypeId} {s x : Operand}
    (ho : o.op = .call { callee := .builtin .append, args := #[s, x], argTypes := #[t, t] }) (hs : a.eval s = v) (hx : a.eval x = src)
    (hrun : (Builtin.append_ #[t, t] o.type #[v, src]).run P w = .ok v' w') (h : K (a.put o.dst v') w') : o.wp P a w K Q := by
  unfold Oper.wp execOp
  simp only [ho, resolve, invoke, builtin, Sem.run_bind, Sem.run_pure, Result.andThen_ok, List.map_toArray, List.map_cons, List.map_nil, hs, hx, hrun]
  exact h
/-- the condition of a region may grow on the way -/
theorem wpAnyH_mono {P : Program} {md : Region.Mode} {ops : Array Oper} {Q : Exit → Act → World → Prop} {S S' : World → Prop} (h : ∀ w, S' w → S w) :
    ∀ (fuel : Nat) (listed : Array Bool) (a : Act) (w : World), wpAnyH P md ops Q S' fuel listed a w → wpAnyH P md ops Q S fuel listed a w
  | 0, _, _, _, hh => hh
  | fuel + 1, _, _, _, hh => ⟨hh.1, fun i hi => wpOp_mono (fun a' w' h' => ⟨h _ h'.1, wpAnyH_mono h fuel _ a' w' h'.2⟩) (hh.2 i hi)⟩
end Go.Proofs.YtlifaeleoiodkaaGreatDoor

/-
  An argument that is a slice of structs, or a struct: what it reads as, as cells. By gen_open.py.
-/
namespace Go.Proofs.YtlifaeleoiodkaaGreatDoor
open Go.RowKit Nm Go.ChangeShapes Go.WideShapes Go.Deep
set_option linter.unusedSimpArgs false
set_option linter.unusedVariables false

theorem okWide_agg {P : Program} {w : World} {r : Reach} {base : Nat} {t : TypeId} {v : Value} {fs : Array Field} (ht : P.underlying t = some (.struct fs)) (h : Value.okWide P w r base t v) : ∃ cs, v = .agg cs ∧ cs.size = P.cellsOf t := by
  simp only [Value.okWide, ht] at h
  obtain ⟨cs, h1, h2, _⟩ := h
  exact ⟨cs, h1, h2⟩
/-- a slice of rows -/
theorem open_rows {H : Type} {enc : TypeId × Value → H} {P : Program} {W : World} {base : Nat} {sp : Nat → Bool} {hd : Bool} {t e : TypeId} {v : Value} {z : DataW H × List MemPlace} {m0 : Nat}
    {α : Type} [Inhabited α] (f : α → List Value) (d : Nat) (hfl : ∀ x, (f x).length = d) (hd0 : 0 < d) (Q : α → Prop)
    (ht : P.underlying t = some (.slice e)) (hC : P.cellsOf e = d)
    (hel : ∀ m cs x, DataW.trod enc P W base sp hd m e cs = some x → ∃ y : α, cs = f y ∧ Q y)
    (hf : DataW.trod enc P W base sp hd m0 t [v] = some z) : ∃ (l : List α) (n : Nat), Sl W W.heap.size d n v (l.flatMap f) ∧ ∀ y ∈ l, Q y := by
  rcases open_slice ht hf with ⟨hcs, _⟩ | ⟨a, n0, c0, m, n, D, Pl, hcs, hb, hl, hm, hmm, hx, hi⟩
  · obtain rfl : v = .slice none 0 0 := by simpa using hcs
    exact ⟨[], 0, Sl.nil _ _ _, by simp⟩
  · obtain rfl : v = .slice (some a) n0 c0 := by simpa using hcs
    rw [hC] at hi
    have hlm : n0 ≤ m := by rw [hmm]; split <;> omega
    have hel' : ∀ i, i < n0 → ∃ y : α, (∀ j u, (f y)[j]? = some u → W.cell? (a.add (i * d + j)) = some u) ∧ Q y := by
      intro i hin
      obtain ⟨cs', hc, ht'⟩ := hi i (by omega)
      obtain ⟨y, rfl, hq⟩ := hel _ _ _ ht'
      obtain ⟨_, _, hat⟩ := World.cells?_some hc
      refine ⟨y, fun j u hu => ?_, hq⟩
      have hj : j < d := by have := (List.getElem?_eq_some_iff.1 hu).1; rwa [hfl] at this
      rw [← Go.Deep.add_add, hat j hj, hu]
    obtain ⟨F, hF⟩ := choose_lt hel'
    refine ⟨(List.range n0).map F, n0, ⟨by rw [flat_len f d hfl]; simp, some a, c0, rfl, hl, hm, fun hn => ?_⟩, ?_⟩
    · have h0l : 0 < (f (F 0)).length := by rw [hfl]; exact hd0
      have hz := (hF 0 hn).1 0 _ (List.getElem?_eq_getElem h0l)
      obtain ⟨b, o, spt⟩ := a
      have hspot : spt = none := by simpa [Addr.add] using World.cell?_spot hz
      subst hspot
      have hlt : b < W.heap.size := by
        have := World.block_lt_of_cell? W _ hz
        rwa [block_le] at this
      refine ⟨b, o, rfl, hlt, fun j u hu => ?_⟩
      have hjl : j < n0 * d := by have := (List.getElem?_eq_some_iff.1 hu).1; rw [flat_len f d hfl] at this; simpa using this
      have hq : j / d < n0 := Nat.div_lt_of_lt_mul (by rwa [Nat.mul_comm])
      have hm2 : j / d * d + j % d = j := by rw [Nat.mul_comm]; exact Nat.div_add_mod j d
      have hfl2 : ((List.range n0).map F)[j / d]? = some (F (j / d)) := by simp [hq]
      have hsp := flat_at f d hfl _ (j / d) (j % d) _ hfl2 (Nat.mod_lt _ hd0)
      rw [hm2, hu] at hsp
      have := (hF (j / d) hq).1 (j % d) u hsp.symm
      rw [hm2, Addr.add_lit] at this
      exact this
    · intro y hy
      obtain ⟨i, hir, rfl⟩ := List.mem_map.1 hy
      exact (hF i (List.mem_range.1 hir)).2
end Go.Proofs.YtlifaeleoiodkaaGreatDoor
