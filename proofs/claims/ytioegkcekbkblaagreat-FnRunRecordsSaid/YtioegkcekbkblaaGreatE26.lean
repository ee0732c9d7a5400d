/-
  DRAWS of the laws of what is sent: a tree and records.
-/
import Derived.Test.YtioegkcekbkblaaGreatE25
namespace Go.Proofs.YtioegkcekbkblaaGreat
open Go.RowKit Nm
set_option linter.unusedSimpArgs false
set_option linter.unusedVariables false

/-- drawn for a law: a tree and records -/
def DrawTreeRecs (w : World) (e : Ending) (w' : World) : Prop :=
  ∃ (v : Value) (rs : List Row) (L : List Lgr) (H : List Hnd) (q : Int) (v2 : Value) (l : List Rec), e = .returned (.tuple #[v, v2]) ∧ TreeS rs v L H q ∧ treeSm 9 L H ∧ l.length ≤ 25 ∧ (∀ x ∈ l, x.nm.length ≤ 20 ∧ x.tx.length ≤ 20) ∧ w'.ownsRow w.heap.size 28 4 v2 l.length (l.flatMap rcells) ∧ Rows w' w.heap.size rs ∧ Below w.heap.size w w'

set_option maxHeartbeats 4000000 in
set_option maxRecDepth 100000 in
theorem drawRunRecords_c (a : Option Addr) (len cap : Nat) (z : List Int) (w : World) (h : IsRow .u8 w a len cap z) :
    Calls Tryz.prog 24 #[.slice a len cap] w (DrawTreeRecs w) := by
  have hb0 : Below w.heap.size w (w.alloc (.cells #[.slice none 0 0, .slice none 0 0, .int .i64 0] 26)) := (Below.refl _ _).alloc (Nat.le_refl _) _
  have KT := hid (Blk.new w #[.slice none 0 0, .slice none 0 0, .int .i64 0] 26)
  have C := hid (newReader_c a len cap z _ (h.belowT hb0))
  have HB0 := hid hb0
  simp only [World.size_alloc] at C
  clear h hb0
  go_enter Tryz.func24, Tryz.ntmps24
  go_wp2_with fail
  refine C.out.mono ?_
  rintro e w1 ⟨rfl, hr1, hb1⟩
  have hs1 : w.heap.size + 1 < w1.heap.size := by have := hr1.lt; omega
  have KT1 := hid (KT.out.below hb1 (by omega))
  have HB1 := hid (HB0.out.trans (hb1.mono (by omega)))
  have C1 := hid (someTree_c _ 0 w1 hr1 (by omega))
  clear hr1 hb1 C KT HB0
  go_wp2_with fail
  refine C1.out.mono ?_
  rintro e w2 ⟨v, rs, L, H, q, p2, rfl, hs, hsm, hr, hp2, hrd2, hg2⟩
  obtain ⟨A1, n1, k1, A2, n2, k2, rfl, -, -⟩ := hs.form_ hr
  have KT2 := hid (KT1.out.kept hg2 (by simp <;> omega))
  have HX := hid (And.intro hs hsm)
  have X2 := hid hr
  have HB2 := hid (HB1.out.trans (below_own hg2 HB1.out.size (by omega)))
  have hs2 : w1.heap.size ≤ w2.heap.size := hg2.size
  have C2 := hid (someRecords_c (w.heap.size + 1) p2 w2 hrd2 (by omega))
  clear hs hr hsm hrd2 hg2 C1 KT1
  go_wp2_with fail
  refine C2.out.mono ?_
  rintro e w3 ⟨v3, l, p3, rfl, hl, hf, ho3, hp3, hr3, hg3⟩
  obtain ⟨A3, c3, rfl, _, _⟩ := (Sl.of_own ho3).form
  have KT3 := hid (KT2.out.kept hg3 (by simp <;> omega))
  have X3 := hid (X2.out.offR hg3 hs1)
  have HO3 := hid ho3
  have HB3 := hid (HB2.out.trans (below_own hg3 HB2.out.size (by omega)))
  have HF := hid hf
  clear ho3 hr3 hg3 hf C2 KT2 X2 HB2
  go_wp2_with (refine wpList_stB (P := Tryz.prog) rfl 26 _ _ rfl w.heap.size [.slice A1 n1 k1, .slice A2 n2 k2, .int .i64 q] rfl rfl _ KT3.out rfl (by kernel_rfl) (List.all_eq_true.1 rfl) ?_)
  intro w4 hk4 hg4 hs4
  have KT4 := hid hk4
  have HB4 := hid (HB3.out.grown hg4 HB3.out.size (by intro z hz; cases hz; omega))
  have X4 := hid (X3.out.offR hg4 (by omega))
  have HO4 := hid (own_off HO3.out hg4 (by omega))
  clear hk4 hg4 hs4 KT3 HB3 X3 HO3
  go_wp2_with fail
  have f0 := (KT4.out.2 0 _ rfl).1
  have f1 := (KT4.out.2 1 _ rfl).1
  have f2 := (KT4.out.2 2 _ rfl).1
  refine bodyPost_ret (v := .tuple #[.agg #[.slice A1 n1 k1, .slice A2 n2 k2, .int .i64 q], .slice A3 l.length c3]) (by simp [results, Tryz.results24, go_sem, f0, f1, f2]) rfl ?_
  exact ⟨_, rs, L, H, q, _, l, rfl, HX.out.1, HX.out.2, hl, HF.out, own_base HO4.out (by omega), X4.out.base (by omega), HB4.out⟩
end Go.Proofs.YtioegkcekbkblaaGreat
