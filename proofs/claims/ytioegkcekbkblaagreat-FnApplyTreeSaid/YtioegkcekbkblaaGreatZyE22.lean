/-
  DRAWS: two trees. By gen_patd.py.
-/
import Derived.Test.YtioegkcekbkblaaGreatZyEM
namespace Go.Proofs.YtioegkcekbkblaaGreat
open Go.RowKit Nm
set_option linter.unusedSimpArgs false
set_option linter.unusedVariables false

/-- two trees of a reader -/
def TwoDraw (R : Nat) (w : World) (e : Ending) (w' : World) : Prop :=
  ∃ (v : Value) (rs : List Row) (L : List Lgr) (H : List Hnd) (q : Int) (vb : Value) (rsb : List Row) (Lb : List Lgr) (Hb : List Hnd) (qb : Int), e = .returned (.tuple #[v, vb]) ∧ TreeS rs v L H q ∧ treeSm 9 L H ∧ TreeS rsb vb Lb Hb qb ∧ treeSm 9 Lb Hb ∧ Rows w' w.heap.size rs ∧ Rows w' w.heap.size rsb ∧ w.grownBy w' (some R)
/-- drawn for a law: two trees -/
def DrawTwo (w : World) (e : Ending) (w' : World) : Prop :=
  ∃ (v : Value) (rs : List Row) (L : List Lgr) (H : List Hnd) (q : Int) (vb : Value) (rsb : List Row) (Lb : List Lgr) (Hb : List Hnd) (qb : Int), e = .returned (.tuple #[v, vb]) ∧ TreeS rs v L H q ∧ treeSm 9 L H ∧ TreeS rsb vb Lb Hb qb ∧ treeSm 9 Lb Hb ∧ Rows w' w.heap.size rs ∧ Rows w' w.heap.size rsb ∧ Below w.heap.size w w'
set_option maxHeartbeats 4000000 in
set_option maxRecDepth 100000 in
theorem twoTrees_c (R p : Nat) (w : World) (hr : Rdr w R p) (hp : p ≤ 300000) : Calls Tryz.prog 80 #[.pointer (some ⟨R, 0, none⟩)] w (TwoDraw R w) := by
  have hlt := hr.lt
  have KA := hid ((Blk.new w #[.slice none 0 0, .slice none 0 0, .int .i64 0] 26).alloc (.cells #[.slice none 0 0, .slice none 0 0, .int .i64 0] 26))
  have KB := hid (Blk.new (w.alloc (.cells #[.slice none 0 0, .slice none 0 0, .int .i64 0] 26)) #[.slice none 0 0, .slice none 0 0, .int .i64 0] 26)
  simp only [World.size_alloc] at KB
  have hb2 : Below w.heap.size w ((w.alloc (.cells #[.slice none 0 0, .slice none 0 0, .int .i64 0] 26)).alloc (.cells #[.slice none 0 0, .slice none 0 0, .int .i64 0] 26)) := ((Below.refl _ _).alloc (Nat.le_refl _) _).alloc (by simp) _
  have G2 := hid (grown_of hb2 (some R))
  have C := hid (someTree_c R p ((w.alloc (.cells #[.slice none 0 0, .slice none 0 0, .int .i64 0] 26)).alloc (.cells #[.slice none 0 0, .slice none 0 0, .int .i64 0] 26)) (hr.below hb2) (by omega))
  have hs2 : ((w.alloc (.cells #[.slice none 0 0, .slice none 0 0, .int .i64 0] 26)).alloc (.cells #[.slice none 0 0, .slice none 0 0, .int .i64 0] 26)).heap.size = w.heap.size + 2 := by simp
  clear hr hb2
  go_enter Tryz.func80, Tryz.ntmps80
  go_wp2_with fail
  refine C.out.mono ?_
  rintro e w1 ⟨v, rs, L, H, q, p1, rfl, hs, hsm, hr1, hp1, hrd1, hg1⟩
  obtain ⟨A1, n1, k1, A2, n2, k2, rfl, -, -⟩ := hs.form_ hr1
  rw [hs2] at hr1
  have hs1 : w.heap.size + 2 ≤ w1.heap.size := by have := hg1.size; rw [hs2] at this; exact this
  have KA1 := hid (KA.out.kept hg1 (by simp; omega))
  have KB1 := hid (KB.out.kept hg1 (by simp; omega))
  have HX := hid (And.intro hs hsm)
  have X1 := hid hr1
  have G1 := hid (grown_tr G2.out hg1)
  have C1 := hid (someTree_c R p1 w1 hrd1 (by omega))
  clear hs hsm hr1 hrd1 hg1 C hs2
  go_wp2_with fail
  refine C1.out.mono ?_
  rintro e w3 ⟨vb, rsb, Lb, Hb, qb, p2, rfl, hs, hsm, hr3, hp2, hrd3, hg3⟩
  obtain ⟨B1, m1, j1, B2, m2, j2, rfl, -, -⟩ := hs.form_ hr3
  have KA3 := hid (KA1.out.kept hg3 (by simp; omega))
  have KB3 := hid (KB1.out.kept hg3 (by simp; omega))
  have HY := hid (And.intro hs hsm)
  have Y3 := hid hr3
  have X3 := hid (X1.out.offR hg3 (by omega))
  have G3 := hid (grown_tr G1.out hg3)
  clear hs hsm hr3 hrd3 hg3 C1
  obtain ⟨q0c, q0f⟩ := KA3.out.2 0 _ rfl
  obtain ⟨q1c, q1f⟩ := KA3.out.2 1 _ rfl
  obtain ⟨q2c, q2f⟩ := KA3.out.2 2 _ rfl
  obtain ⟨r0c, r0f⟩ := KB3.out.2 0 _ rfl
  obtain ⟨r1c, r1f⟩ := KB3.out.2 1 _ rfl
  obtain ⟨r2c, r2f⟩ := KB3.out.2 2 _ rfl
  go_wp2_with fail
  have RA := ((KA3.out.set 0 (.slice A1 n1 k1)).set 1 (.slice A2 n2 k2)).set 2 (.int .i64 q)
  have RA2 := ((RA.apart ⟨w.heap.size + 1, 0, none⟩ (.slice B1 m1 j1) (by simp)).apart ⟨w.heap.size + 1, 1, none⟩ (.slice B2 m2 j2) (by simp)).apart ⟨w.heap.size + 1, 2, none⟩ (.int .i64 qb) (by simp)
  have RB0 := ((KB3.out.apart ⟨w.heap.size, 0, none⟩ (.slice A1 n1 k1) (by simp)).apart ⟨w.heap.size, 1, none⟩ (.slice A2 n2 k2) (by simp)).apart ⟨w.heap.size, 2, none⟩ (.int .i64 q) (by simp)
  have RB := ((RB0.set 0 (.slice B1 m1 j1)).set 1 (.slice B2 m2 j2)).set 2 (.int .i64 qb)
  have f0 := (RA2.2 0 _ rfl).1
  have f1 := (RA2.2 1 _ rfl).1
  have f2 := (RA2.2 2 _ rfl).1
  have e0 := (RB.2 0 _ rfl).1
  have e1 := (RB.2 1 _ rfl).1
  have e2 := (RB.2 2 _ rfl).1
  refine bodyPost_ret (v := .tuple #[.agg #[.slice A1 n1 k1, .slice A2 n2 k2, .int .i64 q], .agg #[.slice B1 m1 j1, .slice B2 m2 j2, .int .i64 qb]]) (by simp [results, Tryz.results80, go_sem, f0, f1, f2, e0, e1, e2]) rfl ?_
  refine ⟨_, rs, L, H, q, _, rsb, Lb, Hb, qb, rfl, HX.out.1, HX.out.2, HY.out.1, HY.out.2, Rows.base (lo := w.heap.size + 2) ?_ (by omega), Rows.base (lo := w1.heap.size) ?_ (by omega), ?_⟩
  · iterate 6 refine Rows.low ?_ (by omega)
    exact X3.out
  · iterate 6 refine Rows.low ?_ (by omega)
    exact Y3.out
  · iterate 3 refine grown_at (b := w.heap.size + 1) ?_ (by omega)
    iterate 3 refine grown_at (b := w.heap.size) ?_ (by omega)
    exact G3.out

end Go.Proofs.YtioegkcekbkblaaGreat
