/-
  LAWS OF BUFFERS, plain: what is pushed is kept or flushed; contracts in rows.
-/
import Derived.Test.YthgkkckbncgfmaaD8
namespace Go.Proofs.Ythgkkckbncgfmaa
open Go.RowKit Nm
set_option linter.unusedSimpArgs false
set_option linter.unusedVariables false

theorem iPush {W : World} {v : Value} {d : Buf} (h : BufIn W W.heap.size v d) (nm tx : ByteArray) (rl sq : Int) (h1 : nm.size ≤ 20) (h2 : tx.size ≤ 20) :
    Calls Try.prog 32 #[v, .agg #[.string nm, .int .i64 rl, .string tx, .int .i64 sq]] W (PushPost W (pushXB d (⟨nm.data.toList, rl, tx.data.toList, sq⟩ : Rec)) (pushXR d (⟨nm.data.toList, rl, tx.data.toList, sq⟩ : Rec)) (pushOk d (⟨nm.data.toList, rl, tx.data.toList, sq⟩ : Rec))) :=
  implPushRecord_c nm tx rl sq h (Nat.le_refl _) (by unfold maxTxt; omega) (by unfold maxTxt; omega)
theorem sPush {W : World} {v : Value} {d : Buf} (h : BufIn W W.heap.size v d) (nm tx : ByteArray) (rl sq : Int) (h1 : nm.size ≤ 20) (h2 : tx.size ≤ 20) :
    Calls Try.prog 33 #[v, .agg #[.string nm, .int .i64 rl, .string tx, .int .i64 sq]] W (PushPost W (pushXB d (⟨nm.data.toList, rl, tx.data.toList, sq⟩ : Rec)) (pushXR d (⟨nm.data.toList, rl, tx.data.toList, sq⟩ : Rec)) (pushOk d (⟨nm.data.toList, rl, tx.data.toList, sq⟩ : Rec))) :=
  specPushRecord_c nm tx rl sq h (Nat.le_refl _) (by unfold maxTxt; omega) (by unfold maxTxt; omega)
theorem push_cases {d : Buf} {r : Rec} (h : pushOk d r = true) : (pushFull d r = true ∧ pushXB d r = ⟨d.rm, d.lv, []⟩ ∧ pushXR d r = d.rc ++ [r]) ∨ (pushFull d r = false ∧ pushXB d r = ⟨d.rm, d.lv, d.rc ++ [r]⟩ ∧ pushXR d r = []) := by
  unfold pushXB pushXR pushB pushR
  simp only [h, if_true]
  cases hf : pushFull d r
  · exact .inr ⟨rfl, by simp, by simp⟩
  · exact .inl ⟨rfl, by simp, by simp⟩
theorem push_all {d : Buf} {r : Rec} (h : pushOk d r = true) : pushXR d r ++ (pushXB d r).rc = d.rc ++ [r] := by
  rcases push_cases h with ⟨_, h1, h2⟩ | ⟨_, h1, h2⟩ <;> rw [h1, h2] <;> simp
theorem push_none_ {d : Buf} {r : Rec} (h : pushOk d r = true) : pushXR d r = [] ∨ (pushXB d r).rc = [] := by
  rcases push_cases h with ⟨_, h1, h2⟩ | ⟨_, h1, h2⟩
  · exact .inr (by rw [h1])
  · exact .inl h2
theorem push_valid {d : Buf} {r : Rec} (h : pushOk d r = true) : bufOk (pushXB d r) = true := by
  have hd : bufOk d = true ∧ recOk r = true := by unfold pushOk at h; simpa using h
  rcases push_cases h with ⟨_, h1, _⟩ | ⟨hf, h1, _⟩
  · rw [h1]; exact bufOk_empty hd.1
  · rw [h1]
    have hb := hd.1
    unfold bufOk at hb ⊢
    unfold pushFull at hf
    simp only [Bool.and_eq_true, decide_eq_true_eq, Bool.or_eq_false_iff, decide_eq_false_iff_not] at hb hf ⊢
    obtain ⟨h3, h4, h5, h6, h7⟩ := hb
    refine ⟨h3, h4, ?_, ?_, ?_⟩
    · unfold recsOk at h5 ⊢
      simp only [Bool.and_eq_true, List.all_append, List.all_cons, List.all_nil, Bool.and_true, decide_eq_true_eq] at h5 ⊢
      refine ⟨⟨h5.1, hd.2⟩, ?_⟩
      rw [List.length_append]; show d.rc.length + 1 ≤ _; omega
    · rw [List.length_append]; show ((d.rc.length + 1 : Nat) : Int) < d.rm; omega
    · rw [atL_eq] at h7 ⊢
      have e : (d.rc.filter fun y => decide (d.lv ≤ y.lv)) = [] := List.eq_nil_of_length_eq_zero (by have := beq_iff_eq.1 h7; omega)
      rw [List.filter_append, e]
      have : ¬ d.lv ≤ r.lv := hf.2
      simp [this]
theorem rows_both {w : World} {base n c : Nat} {A : Option Addr} {l1 l2 l3 : List Rec} (h : w.ownsRow base 33 4 (.slice A n c) n (l1.flatMap rcells ++ l2.flatMap rcells)) (e : l1 ++ l2 = l3) (hn : n = l3.length) :
    Rows w base [⟨33, 4, l3.length, .slice A n c, l3.flatMap rcells⟩] := by
  subst e
  rw [List.flatMap_append, ← hn]
  exact Rows.one (r := ⟨33, 4, n, .slice A n c, _⟩) h
end Go.Proofs.Ythgkkckbncgfmaa
