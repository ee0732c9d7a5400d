/-
  DRAW of the law of applied trees.
-/
import Derived.Test.YtioegkcekbkblaaGreatZyE22
namespace Go.Proofs.YtioegkcekbkblaaGreat
open Go.RowKit Nm
set_option linter.unusedSimpArgs false
set_option linter.unusedVariables false

set_option maxHeartbeats 4000000 in
set_option maxRecDepth 100000 in
theorem drawApplyTree_c (a : Option Addr) (len cap : Nat) (z : List Int) (w : World) (h : IsRow .u8 w a len cap z) :
    Calls Tryz.prog 38 #[.slice a len cap] w (DrawTwo w) := by
  have KA := hid ((Blk.new w #[.slice none 0 0, .slice none 0 0, .int .i64 0] 26).alloc (.cells #[.slice none 0 0, .slice none 0 0, .int .i64 0] 26))
  have KB := hid (Blk.new (w.alloc (.cells #[.slice none 0 0, .slice none 0 0, .int .i64 0] 26)) #[.slice none 0 0, .slice none 0 0, .int .i64 0] 26)
  simp only [World.size_alloc] at KB
  have HB0 := hid (show Below w.heap.size w ((w.alloc (.cells #[.slice none 0 0, .slice none 0 0, .int .i64 0] 26)).alloc (.cells #[.slice none 0 0, .slice none 0 0, .int .i64 0] 26)) from ((Below.refl _ _).alloc (Nat.le_refl _) _).alloc (by simp) _)
  have C := hid (newReader_c a len cap z _ (h.belowT HB0.out))
  simp only [World.size_alloc] at C
  clear h
  go_enter Tryz.func38, Tryz.ntmps38
  go_wp2_with fail
  refine C.out.mono ?_
  rintro e w1 ⟨rfl, hr1, hb1⟩
  have KA1 := hid (KA.out.below hb1 (by omega))
  have KB1 := hid (KB.out.below hb1 (by omega))
  have HB1 := hid (HB0.out.trans (hb1.mono (by omega)))
  have hlt := hr1.lt
  have C1 := hid (twoTrees_c _ 0 w1 hr1 (by omega))
  clear hr1 hb1 C
  go_wp2_with fail
  refine C1.out.mono ?_
  rintro e w3 ⟨v, rs, L, H, q, vb, rsb, Lb, Hb, qb, rfl, hs, hsm, hsb, hsmb, hr, hrb, hg⟩
  obtain ⟨A1, n1, k1, A2, n2, k2, rfl, -, -⟩ := hs.form_ hr
  obtain ⟨B1, m1, j1, B2, m2, j2, rfl, -, -⟩ := hsb.form_ hrb
  have KA3 := hid (KA1.out.kept hg (by simp; try omega))
  have KB3 := hid (KB1.out.kept hg (by simp; try omega))
  have HX := hid (And.intro hs hsm)
  have HY := hid (And.intro hsb hsmb)
  have X3 := hid hr
  have Y3 := hid hrb
  have HB3 := hid (HB1.out.trans (below_own hg HB1.out.size (by omega)))
  clear hs hsm hsb hsmb hr hrb hg C1
  obtain ⟨q0c, q0f⟩ := KA3.out.2 0 _ rfl
  obtain ⟨q1c, q1f⟩ := KA3.out.2 1 _ rfl
  obtain ⟨q2c, q2f⟩ := KA3.out.2 2 _ rfl
  obtain ⟨r0c, r0f⟩ := KB3.out.2 0 _ rfl
  obtain ⟨r1c, r1f⟩ := KB3.out.2 1 _ rfl
  obtain ⟨r2c, r2f⟩ := KB3.out.2 2 _ rfl
  go_wp2_with fail
  have RA := ((KA3.out.set 0 (.slice A1 n1 k1)).set 1 (.slice A2 n2 k2)).set 2 (.int .i64 q)
  have RA2 := ((RA.apart ⟨w.heap.size + 1, 0, none⟩ (.slice B1 m1 j1) (by simp)).apart ⟨w.heap.size + 1, 1, none⟩ (.slice B2 m2 j2) (by simp)).apart ⟨w.heap.size + 1, 2, none⟩ (.int .i64 qb) (by simp)
  have RB0 := ((KB3.out.apart ⟨w.heap.size, 0, none⟩ (.slice A1 n1 k1) (by simp)).apart ⟨w.heap.size, 1, none⟩ (.slice A2 n2 k2) (by simp)).apart ⟨w.heap.size, 2, none⟩ (.int .i64 q) (by simp)
  have RB := ((RB0.set 0 (.slice B1 m1 j1)).set 1 (.slice B2 m2 j2)).set 2 (.int .i64 qb)
  have f0 := (RA2.2 0 _ rfl).1
  have f1 := (RA2.2 1 _ rfl).1
  have f2 := (RA2.2 2 _ rfl).1
  have e0 := (RB.2 0 _ rfl).1
  have e1 := (RB.2 1 _ rfl).1
  have e2 := (RB.2 2 _ rfl).1
  refine bodyPost_ret (v := .tuple #[.agg #[.slice A1 n1 k1, .slice A2 n2 k2, .int .i64 q], .agg #[.slice B1 m1 j1, .slice B2 m2 j2, .int .i64 qb]]) (by simp [results, Tryz.results38, go_sem, f0, f1, f2, e0, e1, e2]) rfl ?_
  refine ⟨_, rs, L, H, q, _, rsb, Lb, Hb, qb, rfl, HX.out.1, HX.out.2, HY.out.1, HY.out.2, Rows.base (lo := w1.heap.size) ?_ (by omega), Rows.base (lo := w1.heap.size) ?_ (by omega), ?_⟩
  · iterate 6 refine Rows.low ?_ (by omega)
    exact X3.out
  · iterate 6 refine Rows.low ?_ (by omega)
    exact Y3.out
  · iterate 6 refine Below.setCell ?_ (by simp) _
    exact HB3.out
end Go.Proofs.YtioegkcekbkblaaGreat
