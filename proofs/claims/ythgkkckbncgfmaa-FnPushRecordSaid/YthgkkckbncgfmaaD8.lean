/-
  DRAWS: what the laws of buffers draw; contracts of buffers in rows. By gen_d8.py.
-/
import Derived.Test.YthgkkckbncgfmaaD6
import Derived.Test.YthgkkckbncgfmaaD7
import Derived.Test.YthgkkckbncgfmaaS7
namespace Go.Proofs.Ythgkkckbncgfmaa
open Go.RowKit Nm
set_option linter.unusedSimpArgs false
set_option linter.unusedVariables false

theorem IsRow.below {k : IntKind} {w w' : World} {a : Option Addr} {len cap : Nat} {z : List Int} (h : IsRow k w a len cap z) (hb : Below w.heap.size w w') : IsRow k w' a len cap z := by
  rcases h with h | ⟨x, h0, h1, h2, h3, h4, h5⟩
  · exact .inl h
  · exact .inr ⟨x, h0, h1, h2, h3, fun i hi => (hb.cell (World.block_lt_of_cell? w _ (h4 i hi))).trans (h4 i hi), h5⟩
theorem BufR.recs {rs : List Row} {a b u : Value} {d : Buf} (h : BufR rs (.agg #[a, b, u]) d) : RecsR rs u d.rc := by
  obtain ⟨x, e, h2⟩ := h
  simp only [Value.agg.injEq, Array.mk.injEq, List.cons.injEq, and_true] at e
  obtain ⟨_, _, rfl⟩ := e
  exact h2
theorem RecsR.count {rs : List Row} {A : Option Addr} {n c lo : Nat} {l : List Rec} {w : World} (h : RecsR rs (.slice A n c) l) (hr : Rows w lo rs) : n = l.length := by
  subst h
  obtain ⟨A', c', e, _, _⟩ := (Sl.of_own (show w.ownsRow _ _ 4 (.slice A n c) _ _ from hr.head)).form
  injection e
/-- drawn: a buffer -/
def DrawBuf (w : World) (e : Ending) (w2 : World) : Prop := ∃ (v : Value) (rs : List Row) (d : Buf), e = .returned v ∧ BufR rs v d ∧ Rows w2 w.heap.size rs ∧ Below w.heap.size w w2 ∧ BufFit d ∧ d.rc.length ≤ 30
/-- drawn: a buffer and a record -/
def DrawBufRec (w : World) (e : Ending) (w2 : World) : Prop := ∃ (v : Value) (rs : List Row) (d : Buf) (nm tx : ByteArray) (lv sq : Int), e = .returned (.tuple #[v, .agg #[.string nm, .int .i64 lv, .string tx, .int .i64 sq]]) ∧ BufR rs v d ∧ Rows w2 w.heap.size rs ∧ Below w.heap.size w w2 ∧ BufFit d ∧ d.rc.length ≤ 30 ∧ nm.size ≤ 20 ∧ tx.size ≤ 20
set_option maxHeartbeats 2000000 in
set_option maxRecDepth 100000 in
theorem drawValidBuffer_c (a : Option Addr) (len cap : Nat) (z : List Int) (w : World) (h : IsRow .u8 w a len cap z) :
    Calls Try.prog 24 #[.slice a len cap] w (DrawBuf w) := by
  have K0 := hid (Blk.new w #[.int .i64 0, .int .i64 0, .slice none 0 0] 39)
  have HB0 := hid (show Below w.heap.size w (w.alloc (.cells #[.int .i64 0, .int .i64 0, .slice none 0 0] 39)) from (Below.refl _ _).alloc (Nat.le_refl _) _)
  have C := hid (newReader_c a len cap z _ (h.below HB0.out))
  simp only [World.size_alloc] at C
  clear h
  go_enter Try.func24, Try.ntmps24
  go_wp2_with fail
  refine C.out.mono ?_
  rintro e w1 ⟨rfl, hr1, hb1⟩
  have K1 := hid (K0.out.below hb1 (by omega))
  have HB1 := hid (HB0.out.trans (hb1.mono (by omega)))
  have C1 := hid (someBuffer_c _ 0 w1 hr1 (by omega))
  clear hr1 hb1 C K0 HB0
  go_wp2_with fail
  refine C1.out.mono ?_
  rintro e w2 ⟨v, rs, d, p2, rfl, hs, hf, hl, hr, hp2, hrd2, hg2⟩
  obtain ⟨A, n, c, rfl⟩ := hs.form hr
  have K2 := hid (K1.out.kept hg2 (by simp))
  have HX := hid (And.intro hs (And.intro hr (And.intro hf hl)))
  have HB2 := hid (HB1.out.trans (below_own hg2 HB1.out.size (by omega)))
  obtain ⟨q0c, q0f⟩ := K2.out.2 0 _ rfl
  obtain ⟨q1c, q1f⟩ := K2.out.2 1 _ rfl
  obtain ⟨q2c, q2f⟩ := K2.out.2 2 _ rfl
  have hs1 : w.heap.size < w1.heap.size := K1.out.1
  clear hs hr hf hl hrd2 hg2 C1 K1
  go_wp2_with fail
  have RB := ((K2.out.set 0 (.int .i64 d.rm)).set 1 (.int .i64 d.lv)).set 2 (.slice A n c)
  have f0 := (RB.2 0 _ rfl).1
  have f1 := (RB.2 1 _ rfl).1
  have f2 := (RB.2 2 _ rfl).1
  refine bodyPost_ret (v := .agg #[.int .i64 d.rm, .int .i64 d.lv, .slice A n c]) (by simp [results, Try.results24, go_sem, f0, f1, f2]) rfl ?_
  refine ⟨_, rs, d, rfl, HX.out.1, Rows.base (lo := w1.heap.size) ?_ (by omega), ?_, fit20_fit HX.out.2.2.1 HX.out.2.2.2 (by omega), HX.out.2.2.2⟩
  · iterate 3 refine Rows.low ?_ (by omega)
    exact HX.out.2.1
  · iterate 3 refine Below.setCell ?_ (by simp) _
    exact HB2.out
set_option maxHeartbeats 2000000 in
set_option maxRecDepth 100000 in
theorem drawFlushBuffer_c (a : Option Addr) (len cap : Nat) (z : List Int) (w : World) (h : IsRow .u8 w a len cap z) :
    Calls Try.prog 28 #[.slice a len cap] w (DrawBuf w) := by
  have K0 := hid (Blk.new w #[.int .i64 0, .int .i64 0, .slice none 0 0] 39)
  have HB0 := hid (show Below w.heap.size w (w.alloc (.cells #[.int .i64 0, .int .i64 0, .slice none 0 0] 39)) from (Below.refl _ _).alloc (Nat.le_refl _) _)
  have C := hid (newReader_c a len cap z _ (h.below HB0.out))
  simp only [World.size_alloc] at C
  clear h
  go_enter Try.func28, Try.ntmps28
  go_wp2_with fail
  refine C.out.mono ?_
  rintro e w1 ⟨rfl, hr1, hb1⟩
  have K1 := hid (K0.out.below hb1 (by omega))
  have HB1 := hid (HB0.out.trans (hb1.mono (by omega)))
  have C1 := hid (someBuffer_c _ 0 w1 hr1 (by omega))
  clear hr1 hb1 C K0 HB0
  go_wp2_with fail
  refine C1.out.mono ?_
  rintro e w2 ⟨v, rs, d, p2, rfl, hs, hf, hl, hr, hp2, hrd2, hg2⟩
  obtain ⟨A, n, c, rfl⟩ := hs.form hr
  have K2 := hid (K1.out.kept hg2 (by simp))
  have HX := hid (And.intro hs (And.intro hr (And.intro hf hl)))
  have HB2 := hid (HB1.out.trans (below_own hg2 HB1.out.size (by omega)))
  obtain ⟨q0c, q0f⟩ := K2.out.2 0 _ rfl
  obtain ⟨q1c, q1f⟩ := K2.out.2 1 _ rfl
  obtain ⟨q2c, q2f⟩ := K2.out.2 2 _ rfl
  have hs1 : w.heap.size < w1.heap.size := K1.out.1
  clear hs hr hf hl hrd2 hg2 C1 K1
  go_wp2_with fail
  have RB := ((K2.out.set 0 (.int .i64 d.rm)).set 1 (.int .i64 d.lv)).set 2 (.slice A n c)
  have f0 := (RB.2 0 _ rfl).1
  have f1 := (RB.2 1 _ rfl).1
  have f2 := (RB.2 2 _ rfl).1
  refine bodyPost_ret (v := .agg #[.int .i64 d.rm, .int .i64 d.lv, .slice A n c]) (by simp [results, Try.results28, go_sem, f0, f1, f2]) rfl ?_
  refine ⟨_, rs, d, rfl, HX.out.1, Rows.base (lo := w1.heap.size) ?_ (by omega), ?_, fit20_fit HX.out.2.2.1 HX.out.2.2.2 (by omega), HX.out.2.2.2⟩
  · iterate 3 refine Rows.low ?_ (by omega)
    exact HX.out.2.1
  · iterate 3 refine Below.setCell ?_ (by simp) _
    exact HB2.out
set_option maxHeartbeats 2000000 in
set_option maxRecDepth 100000 in
theorem drawPushRecord_c (a : Option Addr) (len cap : Nat) (z : List Int) (w : World) (h : IsRow .u8 w a len cap z) :
    Calls Try.prog 31 #[.slice a len cap] w (DrawBufRec w) := by
  have K0 := hid ((Blk.new w #[.int .i64 0, .int .i64 0, .slice none 0 0] 39).alloc (.cells #[.string ByteArray.empty, .int .i64 0, .string ByteArray.empty, .int .i64 0] 33))
  have J0 := hid (Blk.new (w.alloc (.cells #[.int .i64 0, .int .i64 0, .slice none 0 0] 39)) #[.string ByteArray.empty, .int .i64 0, .string ByteArray.empty, .int .i64 0] 33)
  have HB0 := hid (show Below w.heap.size w ((w.alloc (.cells #[.int .i64 0, .int .i64 0, .slice none 0 0] 39)).alloc (.cells #[.string ByteArray.empty, .int .i64 0, .string ByteArray.empty, .int .i64 0] 33)) from ((Below.refl _ _).alloc (Nat.le_refl _) _).alloc (by simp) _)
  have C := hid (newReader_c a len cap z _ (h.below HB0.out))
  simp only [World.size_alloc] at C J0
  clear h
  go_enter Try.func31, Try.ntmps31
  go_wp2_with fail
  refine C.out.mono ?_
  rintro e w1 ⟨rfl, hr1, hb1⟩
  have K1 := hid (K0.out.below hb1 (by omega))
  have J1 := hid (J0.out.below hb1 (by omega))
  have HB1 := hid (HB0.out.trans (hb1.mono (by omega)))
  have C1 := hid (someBuffer_c _ 0 w1 hr1 (by omega))
  have hs1 : w.heap.size + 1 + 1 < w1.heap.size := hr1.lt
  clear hr1 hb1 C K0 J0 HB0
  go_wp2_with fail
  refine C1.out.mono ?_
  rintro e w2 ⟨v, rs, d, p2, rfl, hs, hf, hl, hr, hp2, hrd2, hg2⟩
  obtain ⟨A, n, c, rfl⟩ := hs.form hr
  have K2 := hid (K1.out.kept hg2 (by simp <;> omega))
  have J2 := hid (J1.out.kept hg2 (by simp <;> omega))
  have HX := hid (And.intro hs (And.intro hr (And.intro hf hl)))
  have HG2 := hid hg2
  have C2 := hid (someRecord_c _ p2 w2 hrd2 (by omega))
  have hs2 : w.heap.size + 1 + 1 < w2.heap.size := hrd2.lt
  clear hs hr hf hl hrd2 hg2 C1 K1 J1
  go_wp2_with fail
  refine C2.out.mono ?_
  rintro e w3 ⟨nm, tx, lv, sq, p3, ⟨hnm, htx⟩, _, _, rfl, hp3, hr3, hg3⟩
  have K3 := hid (K2.out.kept hg3 (by simp <;> omega))
  have J3 := hid (J2.out.kept hg3 (by simp <;> omega))
  have HB3 := hid (HB1.out.trans (below_own (grown_tr HG2.out hg3) HB1.out.size (by omega)))
  have HR3 := hid (HX.out.2.1.off hg3 (by omega))
  obtain ⟨q0c, q0f⟩ := K3.out.2 0 _ rfl
  obtain ⟨q1c, q1f⟩ := K3.out.2 1 _ rfl
  obtain ⟨q2c, q2f⟩ := K3.out.2 2 _ rfl
  obtain ⟨j0c, j0f⟩ := J3.out.2 0 _ rfl
  obtain ⟨j1c, j1f⟩ := J3.out.2 1 _ rfl
  obtain ⟨j2c, j2f⟩ := J3.out.2 2 _ rfl
  obtain ⟨j3c, j3f⟩ := J3.out.2 3 _ rfl
  clear hr3 hg3 C2 K2 J2
  go_wp2_with fail
  have RB := ((((((K3.out.set 0 (.int .i64 d.rm)).set 1 (.int .i64 d.lv)).set 2 (.slice A n c)).apart ⟨w.heap.size + 1, 0, none⟩ (.string nm) (by simp)).apart ⟨w.heap.size + 1, 1, none⟩ (.int .i64 lv) (by simp)).apart ⟨w.heap.size + 1, 2, none⟩ (.string tx) (by simp)).apart ⟨w.heap.size + 1, 3, none⟩ (.int .i64 sq) (by simp)
  have RJ := ((((((J3.out.apart ⟨w.heap.size, 0, none⟩ (.int .i64 d.rm) (by simp)).apart ⟨w.heap.size, 1, none⟩ (.int .i64 d.lv) (by simp)).apart ⟨w.heap.size, 2, none⟩ (.slice A n c) (by simp)).set 0 (.string nm)).set 1 (.int .i64 lv)).set 2 (.string tx)).set 3 (.int .i64 sq)
  have f0 := (RB.2 0 _ rfl).1
  have f1 := (RB.2 1 _ rfl).1
  have f2 := (RB.2 2 _ rfl).1
  have g0 := (RJ.2 0 _ rfl).1
  have g1 := (RJ.2 1 _ rfl).1
  have g2 := (RJ.2 2 _ rfl).1
  have g3 := (RJ.2 3 _ rfl).1
  refine bodyPost_ret (v := .tuple #[.agg #[.int .i64 d.rm, .int .i64 d.lv, .slice A n c], .agg #[.string nm, .int .i64 lv, .string tx, .int .i64 sq]]) (by simp [results, Try.results31, go_sem, f0, f1, f2, g0, g1, g2, g3]) rfl ?_
  refine ⟨_, rs, d, nm, tx, lv, sq, rfl, HX.out.1, Rows.base (lo := w1.heap.size) ?_ (by omega), ?_, fit20_fit HX.out.2.2.1 HX.out.2.2.2 (by omega), HX.out.2.2.2, hnm, htx⟩
  · iterate 7 refine Rows.low ?_ (by omega)
    exact HR3.out
  · iterate 7 refine Below.setCell ?_ (by simp) _
    exact HB3.out
set_option maxHeartbeats 2000000 in
set_option maxRecDepth 100000 in
theorem equalBufX_c {rs rs' : List Row} {v v' : Value} {d : Buf} {w : World} {lo lo' : Nat} (h : BufR rs v d) (hr : Rows w lo rs) (h' : BufR rs' v' d) (hr' : Rows w lo' rs') :
    Calls Try.prog 30 #[v, v'] w (BoolPost w true) := by
  obtain ⟨u, rfl, h1⟩ := h
  obtain ⟨u', rfl, h1'⟩ := h'
  obtain ⟨rm, lv, rc⟩ := d
  obtain ⟨A, n, c, rfl⟩ := h1.form hr
  obtain ⟨A', n', c', rfl⟩ := h1'.form hr'
  have b0 : (rm == rm) = true := by simp
  have b1 : (lv == lv) = true := by simp
  have C := hid (fun (w1 : World) (hb : Below w.heap.size w w1) => equalRecsX_c h1 (hr.below hb) h1' (hr'.below hb))
  clear h1 h1' hr hr'
  go_enter Try.func30, Try.ntmps30
  go_wp2_with fail
  refine (C.out _ (by go_grown)).mono ?_
  rintro e w1 ⟨rfl, hb⟩
  have HB := hid (Below.mono hb (by simp; try omega) : Below w.heap.size _ w1)
  clear hb
  go_wp2_with fail
  all_goals go_ret
  all_goals exact ⟨rfl, Below.trans (by go_grown) HB.out⟩
theorem iValidBuffer {W : World} {v : Value} {d : Buf} (h : BufIn W W.heap.size v d) : Calls Try.prog 25 #[v] W (BoolPost W (bufOk d)) := implValidBuffer_c h (Nat.le_refl _)
theorem sValidBuffer {W : World} {v : Value} {d : Buf} (h : BufIn W W.heap.size v d) : Calls Try.prog 26 #[v] W (BoolPost W (bufOk d)) := specValidBuffer_c h (Nat.le_refl _)
theorem iFlush {W : World} {v : Value} {d : Buf} (h : BufIn W W.heap.size v d) : Calls Try.prog 27 #[v] W (FlushPost W (flushB d) (flushR d)) := implFlush_c h (Nat.le_refl _)
theorem sFlush {W : World} {v : Value} {d : Buf} (h : BufIn W W.heap.size v d) : Calls Try.prog 29 #[v] W (FlushPost W (flushB d) (flushR d)) := specFlush_c h (Nat.le_refl _)
theorem bufOk_empty {d : Buf} (h : bufOk d = true) : bufOk ⟨d.rm, d.lv, []⟩ = true := by
  unfold bufOk at h ⊢
  simp only [Bool.and_eq_true, decide_eq_true_eq] at h ⊢
  refine ⟨h.1, h.2.1, rfl, ?_, rfl⟩
  have := h.1.1
  show ((([] : List Rec).length : Nat) : Int) < d.rm
  simp; omega
theorem flushB_ok {d : Buf} (h : bufOk d = true) : bufOk (flushB d) = true := by unfold flushB; rw [if_pos h]; exact bufOk_empty h
theorem flushB_rc (d : Buf) : (flushB d).rc = [] := by unfold flushB; split <;> rfl
theorem flushB_again {d : Buf} (h : bufOk d = true) : flushB (flushB d) = flushB d ∧ flushR (flushB d) = [] := by
  have h2 := bufOk_empty h
  have e : flushB d = ⟨d.rm, d.lv, []⟩ := by unfold flushB; rw [if_pos h]
  rw [e]
  unfold flushB flushR
  rw [if_pos h2, if_pos h2]
  exact ⟨rfl, rfl⟩
theorem flushR_ok {d : Buf} (h : bufOk d = true) : flushR d = d.rc := by unfold flushR; rw [if_pos h]
end Go.Proofs.Ythgkkckbncgfmaa
