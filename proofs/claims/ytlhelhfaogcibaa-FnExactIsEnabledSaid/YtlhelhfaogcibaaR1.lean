/-
  RECORDS: the model (texts, records, when they are valid), and the walks of isText, validText, validRecord of both.
-/
import Derived.Test.YtlhelhfaogcibaaW14
import Derived.Test.YtlhelhfaogcibaaT2
namespace Go.Proofs.Ytlhelhfaogcibaa
open Go.RowKit Nm
set_option linter.unusedSimpArgs false
set_option linter.unusedVariables false

def spc (c : UInt8) : Bool := decide (c = 32) || low c
def textOk (l : List UInt8) : Bool := l.all spc && decide (l.length ≤ 12)
structure Rec where
  nm : List UInt8
  lv : Int
  tx : List UInt8
  sq : Int
deriving DecidableEq
def recOk (r : Rec) : Bool := nameOk r.nm && (decide (1 ≤ r.lv) && (decide (r.lv ≤ 60) && (textOk r.tx && (decide (0 ≤ r.sq) && decide (r.sq ≤ 999)))))
def recsOk (l : List Rec) : Bool := l.all recOk && decide (l.length ≤ 12)
def rcells (r : Rec) : List Value := [txt r.nm, .int .i64 r.lv, txt r.tx, .int .i64 r.sq]

theorem spc_iff (c : UInt8) : spc c = true ↔ c.toNat = 32 ∨ (97 ≤ c.toNat ∧ c.toNat ≤ 122) := by
  unfold spc
  rw [Bool.or_eq_true, decide_eq_true_eq, low_iff]
  constructor
  · rintro (rfl | h)
    · exact .inl rfl
    · exact .inr h
  · rintro (h | h)
    · exact .inl (UInt8.toNat_inj.1 (by simpa using h))
    · exact .inr h
theorem tx_bad (l : List UInt8) (k : Nat) (c : UInt8) (hc : l[k]? = some c) (h : spc c = false) : textOk l = false := by
  cases hw : textOk l with
  | false => rfl
  | true =>
    simp only [textOk, Bool.and_eq_true, List.all_eq_true] at hw
    rw [hw.1 _ (List.mem_of_getElem? hc)] at h; cases h
theorem tx_long (l : List UInt8) (h : 12 < l.length) : textOk l = false := by
  unfold textOk; rw [decide_eq_false (by omega), Bool.and_false]
theorem tx_end (l : List UInt8) (h : l.all spc = true) : textOk l = decide (l.length ≤ 12) := by
  unfold textOk; rw [h, Bool.true_and]
theorem take_all {α : Type} (f : α → Bool) (l : List α) (p : Nat) (c : α) (h : (l.take p).all f = true) (hc : l[p]? = some c) (hl : f c = true) : (l.take (p + 1)).all f = true := by
  rw [List.take_add_one, hc]; simp [List.all_append, h, hl]

theorem tx_go (s : ByteArray) (p : Nat) (h : p < s.size) (hl : (s.data.toList.take p).all spc = true) (h1 : ((Utf8.decode s p).1 : Int) = 32 ∨ (97 ≤ ((Utf8.decode s p).1 : Int) ∧ ((Utf8.decode s p).1 : Int) ≤ 122)) :
    (Utf8.decode s p).2 = 1 ∧ (s.data.toList.take (p + 1)).all spc = true := by
  obtain ⟨c, hc, ⟨_, hd⟩ | ⟨ha, hd⟩⟩ := dec_cases s p h
  · rw [hd] at h1 ⊢
    exact ⟨rfl, take_all _ _ p c hl hc ((spc_iff c).2 (by simp at h1; omega))⟩
  · omega
theorem tx_no (s : ByteArray) (p : Nat) (h : p < s.size) (h0 : ¬ ((Utf8.decode s p).1 : Int) = 32) (h1 : ((Utf8.decode s p).1 : Int) < 97 ∨ 122 < ((Utf8.decode s p).1 : Int)) : textOk s.data.toList = false := by
  obtain ⟨c, hc, ⟨_, hd⟩ | ⟨ha, hd⟩⟩ := dec_cases s p h
  · rw [hd] at h0 h1
    refine tx_bad _ p c hc ?_
    rw [Bool.eq_false_iff, Ne, spc_iff]; simp at h0 h1; omega
  · refine tx_bad _ p c hc ?_
    rw [Bool.eq_false_iff, Ne, spc_iff]; omega

end Go.Proofs.Ytlhelhfaogcibaa
