/-
  DRAWS of SpotsOf, UsedHandlers, DropLogger. By gen_e5.py (its named, tree).
-/
import Derived.Test.YteoblmhbjmefoaaE6
namespace Go.Proofs.Yteoblmhbjmefoaa
open Go.RowKit Nm
set_option linter.unusedSimpArgs false
set_option linter.unusedVariables false

set_option maxHeartbeats 4000000 in
set_option maxRecDepth 100000 in
theorem drawDropLogger_c (a : Option Addr) (len cap : Nat) (z : List Int) (w : World) (h : IsRow .u8 w a len cap z) :
    Calls Try.prog 25 #[.slice a len cap] w (DrawNamed w) := by
  have K0 := hid (Blk.new w #[.slice none 0 0, .slice none 0 0, .int .i64 0] 30)
  have HB0 := hid (show Below w.heap.size w (w.alloc (.cells #[.slice none 0 0, .slice none 0 0, .int .i64 0] 30)) from (Below.refl _ _).alloc (Nat.le_refl _) _)
  have C := hid (newReader_c a len cap z _ (h.belowT HB0.out))
  simp only [World.size_alloc] at C
  clear h
  go_enter Try.func25, Try.ntmps25
  go_wp2_with fail
  refine C.out.mono ?_
  rintro e w1 ⟨rfl, hr1, hb1⟩
  have K1 := hid (K0.out.below hb1 (by omega))
  have HB1 := hid (HB0.out.trans (hb1.mono (by omega)))
  have C1 := hid (treeName_c _ 0 w1 hr1 (by omega))
  clear hr1 hb1 C K0 HB0
  go_wp2_with fail
  refine C1.out.mono ?_
  rintro e w2 ⟨v, rs, L, H, q, nm, p2, rfl, hs, hsm, hnm, hr, hp2, hrd2, hg2⟩
  obtain ⟨A1, n1, k1, A2, n2, k2, rfl, -, -⟩ := hs.form_ hr
  have K2 := hid (K1.out.kept hg2 (by simp))
  have HX := hid (And.intro hs (And.intro hr hsm))
  have HB2 := hid (HB1.out.trans (below_own hg2 HB1.out.size (by omega)))
  obtain ⟨q0c, q0f⟩ := K2.out.2 0 _ rfl
  obtain ⟨q1c, q1f⟩ := K2.out.2 1 _ rfl
  obtain ⟨q2c, q2f⟩ := K2.out.2 2 _ rfl
  have hs1 : w.heap.size < w1.heap.size := K1.out.1
  clear hs hr hsm hrd2 hg2 C1 K1
  go_wp2_with fail
  have RB := ((K2.out.set 0 (.slice A1 n1 k1)).set 1 (.slice A2 n2 k2)).set 2 (.int .i64 q)
  have f0 := (RB.2 0 _ rfl).1
  have f1 := (RB.2 1 _ rfl).1
  have f2 := (RB.2 2 _ rfl).1
  refine bodyPost_ret (v := .tuple #[.agg #[.slice A1 n1 k1, .slice A2 n2 k2, .int .i64 q], .string nm]) (by simp [results, Try.results25, go_sem, f0, f1, f2]) rfl ?_
  refine ⟨_, rs, L, H, q, nm, rfl, HX.out.1, HX.out.2.2, hnm, Rows.base (lo := w1.heap.size) ?_ (by omega), ?_⟩
  · iterate 3 refine Rows.low ?_ (by omega)
    exact HX.out.2.1
  · iterate 3 refine Below.setCell ?_ (by simp) _
    exact HB2.out
end Go.Proofs.Yteoblmhbjmefoaa
