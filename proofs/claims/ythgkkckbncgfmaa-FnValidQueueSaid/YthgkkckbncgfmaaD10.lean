/-
  DRAWS: what the laws of queues draw; contracts of queues in rows. By gen_d10.py.
-/
import Derived.Test.YthgkkckbncgfmaaD8
import Derived.Test.YthgkkckbncgfmaaD9
import Derived.Test.YthgkkckbncgfmaaQ1
namespace Go.Proofs.Ythgkkckbncgfmaa
open Go.RowKit Nm
set_option linter.unusedSimpArgs false
set_option linter.unusedVariables false

theorem QueR.recs {rs : List Row} {a b u : Value} {d : Que} (h : QueR rs (.agg #[a, u, b]) d) : RecsR rs u d.it := by
  obtain ⟨x, e, h2⟩ := h
  simp only [Value.agg.injEq, Array.mk.injEq, List.cons.injEq, and_true] at e
  obtain ⟨_, rfl, _⟩ := e
  exact h2
/-- drawn: a queue -/
def DrawQue (w : World) (e : Ending) (w2 : World) : Prop := ∃ (v : Value) (rs : List Row) (d : Que), e = .returned v ∧ QueR rs v d ∧ Rows w2 w.heap.size rs ∧ Below w.heap.size w w2 ∧ QueFit d ∧ d.it.length ≤ 30
set_option maxHeartbeats 2000000 in
set_option maxRecDepth 100000 in
theorem drawValidQueue_c (a : Option Addr) (len cap : Nat) (z : List Int) (w : World) (h : IsRow .u8 w a len cap z) :
    Calls Try.prog 34 #[.slice a len cap] w (DrawQue w) := by
  have K0 := hid (Blk.new w #[.int .i64 0, .slice none 0 0, .int .i64 0] 50)
  have HB0 := hid (show Below w.heap.size w (w.alloc (.cells #[.int .i64 0, .slice none 0 0, .int .i64 0] 50)) from (Below.refl _ _).alloc (Nat.le_refl _) _)
  have C := hid (newReader_c a len cap z _ (h.below HB0.out))
  simp only [World.size_alloc] at C
  clear h
  go_enter Try.func34, Try.ntmps34
  go_wp2_with fail
  refine C.out.mono ?_
  rintro e w1 ⟨rfl, hr1, hb1⟩
  have K1 := hid (K0.out.below hb1 (by omega))
  have HB1 := hid (HB0.out.trans (hb1.mono (by omega)))
  have C1 := hid (someQueue_c _ 0 w1 hr1 (by omega))
  clear hr1 hb1 C K0 HB0
  go_wp2_with fail
  refine C1.out.mono ?_
  rintro e w2 ⟨v, rs, d, p2, rfl, hs, hf, hl, hr, hp2, hrd2, hg2⟩
  obtain ⟨A, n, c, rfl⟩ := hs.form hr
  have K2 := hid (K1.out.kept hg2 (by simp))
  have HX := hid (And.intro hs (And.intro hr (And.intro hf hl)))
  have HB2 := hid (HB1.out.trans (below_own hg2 HB1.out.size (by omega)))
  obtain ⟨q0c, q0f⟩ := K2.out.2 0 _ rfl
  obtain ⟨q1c, q1f⟩ := K2.out.2 1 _ rfl
  obtain ⟨q2c, q2f⟩ := K2.out.2 2 _ rfl
  have hs1 : w.heap.size < w1.heap.size := K1.out.1
  clear hs hr hf hl hrd2 hg2 C1 K1
  go_wp2_with fail
  have RB := ((K2.out.set 0 (.int .i64 d.rm)).set 1 (.slice A n c)).set 2 (.int .i64 d.ls)
  have f0 := (RB.2 0 _ rfl).1
  have f1 := (RB.2 1 _ rfl).1
  have f2 := (RB.2 2 _ rfl).1
  refine bodyPost_ret (v := .agg #[.int .i64 d.rm, .slice A n c, .int .i64 d.ls]) (by simp [results, Try.results34, go_sem, f0, f1, f2]) rfl ?_
  refine ⟨_, rs, d, rfl, HX.out.1, Rows.base (lo := w1.heap.size) ?_ (by omega), ?_, fit20_fit HX.out.2.2.1 HX.out.2.2.2 (by omega), HX.out.2.2.2⟩
  · iterate 3 refine Rows.low ?_ (by omega)
    exact HX.out.2.1
  · iterate 3 refine Below.setCell ?_ (by simp) _
    exact HB2.out
theorem iValidQueue {W : World} {v : Value} {d : Que} (h : QueIn W W.heap.size v d) : Calls Try.prog 35 #[v] W (BoolPost W (queOk d)) := implValidQueue_c h (Nat.le_refl _)
theorem sValidQueue {W : World} {v : Value} {d : Que} (h : QueIn W W.heap.size v d) : Calls Try.prog 36 #[v] W (BoolPost W (queOk d)) := specValidQueue_c h (Nat.le_refl _)
def tailQ (d : Que) : Que := ⟨d.rm, d.it.drop 1, d.ls⟩
theorem queOk_tail {d : Que} (h : queOk d = true) : queOk (tailQ d) = true := by
  unfold queOk tailQ at *
  simp only [Bool.and_eq_true, decide_eq_true_eq] at h ⊢
  refine ⟨h.1, recs_sub h.2.1 (fun x hx => List.mem_of_mem_drop hx) (by rw [List.length_drop]; omega), ?_, h.2.2.2⟩
  have := h.2.2.1
  rw [List.length_drop]; omega
theorem RecsIn.tail {w : World} {B n c b o : Nat} {l : List Rec} (h : RecsIn w B (.slice (some ⟨b, o, none⟩) n c) l) (hn : 1 ≤ n) : RecsIn w B (.slice (some ⟨b, o + 4, none⟩) (n - 1) (c - 1)) (l.drop 1) := by
  obtain ⟨A', c', he, _, _⟩ := h.1.1.form
  injection he with _ h2 _
  obtain ⟨⟨h1, hf⟩, hm⟩ := h
  rw [← h2] at h1
  have h3 := h1.from_ (k := 1) hn
  rw [flat_drop rcells 4 rcells_len] at h3
  refine ⟨⟨by rw [List.length_drop, ← h2]; simpa using h3, fun x hx => hf x (List.mem_of_mem_drop hx)⟩, by rw [List.length_drop]; omega⟩
theorem RecsIn.none_ {w : World} {B n c : Nat} {A A' : Option Addr} {l : List Rec} (h : RecsIn w B (.slice A n c) l) (hn : n = 1) : RecsIn w B (.slice A' 0 0) (l.drop 1) := by
  obtain ⟨A'', c', he, _, _⟩ := h.1.1.form
  injection he with _ h2 _
  have e : l.drop 1 = [] := List.drop_eq_nil_of_le (by omega)
  rw [e]
  exact ⟨⟨⟨by simp, A', 0, rfl, Nat.le_refl _, Nat.zero_le _, fun h => absurd h (by simp)⟩, by simp⟩, by simp⟩
theorem QueIn.tail {w : World} {B n c b o : Nat} {x y : Int} {d : Que} (h : QueIn w B (.agg #[.int .i64 x, .slice (some ⟨b, o, none⟩) n c, .int .i64 y]) d) (hn : 1 ≤ n) : QueIn w B (.agg #[.int .i64 x, .slice (some ⟨b, o + 4, none⟩) (n - 1) (c - 1), .int .i64 y]) (tailQ d) := by
  obtain ⟨u, e, h2⟩ := h
  simp only [Value.agg.injEq, Array.mk.injEq, List.cons.injEq, and_true, Value.int.injEq, true_and] at e
  obtain ⟨rfl, rfl, rfl⟩ := e
  exact ⟨_, rfl, h2.tail hn⟩
theorem QueIn.tail0 {w : World} {B n c : Nat} {A A' : Option Addr} {x y : Int} {d : Que} (h : QueIn w B (.agg #[.int .i64 x, .slice A n c, .int .i64 y]) d) (hn : n = 1) : QueIn w B (.agg #[.int .i64 x, .slice A' 0 0, .int .i64 y]) (tailQ d) := by
  obtain ⟨u, e, h2⟩ := h
  simp only [Value.agg.injEq, Array.mk.injEq, List.cons.injEq, and_true, Value.int.injEq, true_and] at e
  obtain ⟨rfl, rfl, rfl⟩ := e
  exact ⟨_, rfl, h2.none_ hn⟩
end Go.Proofs.Ythgkkckbncgfmaa
