/-
  DRAWS: what the laws of buffers draw; contracts of buffers in rows. By gen_d8.py.
-/
import Derived.Test.YtfjpfdmlcgkfeaaD6
import Derived.Test.YtfjpfdmlcgkfeaaD7
import Derived.Test.YtfjpfdmlcgkfeaaS7
namespace Go.Proofs.Ytfjpfdmlcgkfeaa
open Go.RowKit Nm
set_option linter.unusedSimpArgs false
set_option linter.unusedVariables false

theorem IsRow.below {k : IntKind} {w w' : World} {a : Option Addr} {len cap : Nat} {z : List Int} (h : IsRow k w a len cap z) (hb : Below w.heap.size w w') : IsRow k w' a len cap z := by
  rcases h with h | ⟨x, h0, h1, h2, h3, h4, h5⟩
  · exact .inl h
  · exact .inr ⟨x, h0, h1, h2, h3, fun i hi => (hb.cell (World.block_lt_of_cell? w _ (h4 i hi))).trans (h4 i hi), h5⟩
theorem BufR.recs {rs : List Row} {a b u : Value} {d : Buf} (h : BufR rs (.agg #[a, b, u]) d) : RecsR rs u d.rc := by
  obtain ⟨x, e, h2⟩ := h
  simp only [Value.agg.injEq, Array.mk.injEq, List.cons.injEq, and_true] at e
  obtain ⟨_, _, rfl⟩ := e
  exact h2
theorem RecsR.count {rs : List Row} {A : Option Addr} {n c lo : Nat} {l : List Rec} {w : World} (h : RecsR rs (.slice A n c) l) (hr : Rows w lo rs) : n = l.length := by
  subst h
  obtain ⟨A', c', e, _, _⟩ := (Sl.of_own (show w.ownsRow _ _ 4 (.slice A n c) _ _ from hr.head)).form
  injection e
/-- drawn: a buffer -/
def DrawBuf (w : World) (e : Ending) (w2 : World) : Prop := ∃ (v : Value) (rs : List Row) (d : Buf), e = .returned v ∧ BufR rs v d ∧ Rows w2 w.heap.size rs ∧ Below w.heap.size w w2 ∧ BufFit d ∧ d.rc.length ≤ 30
/-- drawn: a buffer and a record -/
def DrawBufRec (w : World) (e : Ending) (w2 : World) : Prop := ∃ (v : Value) (rs : List Row) (d : Buf) (nm tx : ByteArray) (lv sq : Int), e = .returned (.tuple #[v, .agg #[.string nm, .int .i64 lv, .string tx, .int .i64 sq]]) ∧ BufR rs v d ∧ Rows w2 w.heap.size rs ∧ Below w.heap.size w w2 ∧ BufFit d ∧ d.rc.length ≤ 30 ∧ nm.size ≤ 20 ∧ tx.size ≤ 20
set_option maxHeartbeats 2000000 in
set_option maxRecDepth 100000 in
theorem equalBufX_c {rs rs' : List Row} {v v' : Value} {d : Buf} {w : World} {lo lo' : Nat} (h : BufR rs v d) (hr : Rows w lo rs) (h' : BufR rs' v' d) (hr' : Rows w lo' rs') :
    Calls Try.prog 20 #[v, v'] w (BoolPost w true) := by
  obtain ⟨u, rfl, h1⟩ := h
  obtain ⟨u', rfl, h1'⟩ := h'
  obtain ⟨rm, lv, rc⟩ := d
  obtain ⟨A, n, c, rfl⟩ := h1.form hr
  obtain ⟨A', n', c', rfl⟩ := h1'.form hr'
  have b0 : (rm == rm) = true := by simp
  have b1 : (lv == lv) = true := by simp
  have C := hid (fun (w1 : World) (hb : Below w.heap.size w w1) => equalRecsX_c h1 (hr.below hb) h1' (hr'.below hb))
  clear h1 h1' hr hr'
  go_enter Try.func20, Try.ntmps20
  go_wp2_with fail
  refine (C.out _ (by go_grown)).mono ?_
  rintro e w1 ⟨rfl, hb⟩
  have HB := hid (Below.mono hb (by simp; try omega) : Below w.heap.size _ w1)
  clear hb
  go_wp2_with fail
  all_goals go_ret
  all_goals exact ⟨rfl, Below.trans (by go_grown) HB.out⟩
theorem iValidBuffer {W : World} {v : Value} {d : Buf} (h : BufIn W W.heap.size v d) : Calls Try.prog 23 #[v] W (BoolPost W (bufOk d)) := implValidBuffer_c h (Nat.le_refl _)
theorem bufOk_empty {d : Buf} (h : bufOk d = true) : bufOk ⟨d.rm, d.lv, []⟩ = true := by
  unfold bufOk at h ⊢
  simp only [Bool.and_eq_true, decide_eq_true_eq] at h ⊢
  refine ⟨h.1, h.2.1, rfl, ?_, rfl⟩
  have := h.1.1
  show ((([] : List Rec).length : Nat) : Int) < d.rm
  simp; omega
theorem flushB_ok {d : Buf} (h : bufOk d = true) : bufOk (flushB d) = true := by unfold flushB; rw [if_pos h]; exact bufOk_empty h
theorem flushB_rc (d : Buf) : (flushB d).rc = [] := by unfold flushB; split <;> rfl
theorem flushB_again {d : Buf} (h : bufOk d = true) : flushB (flushB d) = flushB d ∧ flushR (flushB d) = [] := by
  have h2 := bufOk_empty h
  have e : flushB d = ⟨d.rm, d.lv, []⟩ := by unfold flushB; rw [if_pos h]
  rw [e]
  unfold flushB flushR
  rw [if_pos h2, if_pos h2]
  exact ⟨rfl, rfl⟩
theorem flushR_ok {d : Buf} (h : bufOk d = true) : flushR d = d.rc := by unfold flushR; rw [if_pos h]
end Go.Proofs.Ytfjpfdmlcgkfeaa
