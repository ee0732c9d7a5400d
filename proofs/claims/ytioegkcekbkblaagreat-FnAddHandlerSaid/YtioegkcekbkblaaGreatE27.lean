/-
  DRAWS of the laws of handlers: a tree and a new handler. By gen_addh.py.
-/
import Derived.Test.YtioegkcekbkblaaGreatE25
namespace Go.Proofs.YtioegkcekbkblaaGreat
open Go.RowKit Nm
set_option linter.unusedSimpArgs false
set_option linter.unusedVariables false

set_option maxHeartbeats 4000000 in
set_option maxRecDepth 100000 in
theorem aLevel_c (R p : Nat) (w : World) (hr : Rdr w R p) (hp : p ≤ 900000) :
    Calls Tryz.prog 61 #[.pointer (some ⟨R, 0, none⟩)] w fun e w' => ∃ z : Int, (0 ≤ z ∧ z ≤ 60) ∧ e = .returned (.int .i64 z) ∧ Rdr w' R (p + 1) ∧ w.grownBy w' (some R) := by
  have C := hid (one_lit R p 8 [10, 20, 30, 0, 40, 15, 50, 60] w hr (by omega) rfl (by omega) (by omega) 0 60 (by decide))
  clear hr
  go_enter Tryz.func61, Tryz.ntmps61
  go_wp2_with fail
  refine C.out.mono ?_
  rintro e w1 ⟨z, hz, rfl, hr1, hg1⟩
  have HX := hid (And.intro hz (And.intro hr1 hg1))
  clear hz hr1 hg1 C
  go_wp2_with fail
  go_ret
  exact ⟨z, HX.out.1, rfl, HX.out.2.1, HX.out.2.2⟩

def hdNames : List (List UInt8) := [[110, 101, 119], [104], [122], [108, 97, 115, 116], [88]]
/-- drawn for a law: a tree and a handler -/
def DrawTreeHd (w : World) (e : Ending) (w' : World) : Prop :=
  ∃ (v : Value) (rs : List Row) (L : List Lgr) (H : List Hnd) (q : Int) (s : ByteArray) (lv : Int) (fA : Option Addr) (fn fc : Nat) (fs : List Flt), e = .returned (.tuple #[v, .agg #[.string s, .int .i64 lv, .slice fA fn fc]]) ∧ TreeS rs v L H q ∧ treeSm 9 L H ∧ s.size ≤ 20 ∧ fs.length = fn ∧ fn ≤ 4 ∧ ffit fs ∧ w'.ownsRow w.heap.size 99 3 (.slice fA fn fc) fn (fsCells fs) ∧ Rows w' w.heap.size rs ∧ Below w.heap.size w w'

set_option maxHeartbeats 8000000 in
set_option maxRecDepth 100000 in
theorem drawAddHandler_c (a : Option Addr) (len cap : Nat) (z : List Int) (w : World) (h : IsRow .u8 w a len cap z) :
    Calls Tryz.prog 27 #[.slice a len cap] w (DrawTreeHd w) := by
  have hb0 : Below w.heap.size w ((w.alloc (.cells #[.slice none 0 0, .slice none 0 0, .int .i64 0] 26)).alloc (.cells #[.string ByteArray.empty, .int .i64 0, .slice none 0 0] 47)) := ((Below.refl _ _).alloc (Nat.le_refl _) _).alloc (by simp) _
  have KT := hid ((Blk.new w #[.slice none 0 0, .slice none 0 0, .int .i64 0] 26).alloc (.cells #[.string ByteArray.empty, .int .i64 0, .slice none 0 0] 47))
  have KR := hid (Blk.new (w.alloc (.cells #[.slice none 0 0, .slice none 0 0, .int .i64 0] 26)) #[.string ByteArray.empty, .int .i64 0, .slice none 0 0] 47)
  simp only [World.size_alloc] at KR
  have C := hid (newReader_c a len cap z ((w.alloc (.cells #[.slice none 0 0, .slice none 0 0, .int .i64 0] 26)).alloc (.cells #[.string ByteArray.empty, .int .i64 0, .slice none 0 0] 47)) (h.belowT hb0))
  have HB0 := hid hb0
  simp only [World.size_alloc] at C
  clear h hb0
  go_enter Tryz.func27, Tryz.ntmps27
  go_wp2_with fail
  refine C.out.mono ?_
  rintro e w1 ⟨rfl, hr1, hb1⟩
  have hs1 : w.heap.size + 2 < w1.heap.size := by have := hr1.lt; omega
  have KT1 := hid (KT.out.below hb1 (by omega))
  have KR1 := hid (KR.out.below hb1 (by omega))
  have HB1 := hid (HB0.out.trans (hb1.mono (by omega)))
  have C1 := hid (someTree_c _ 0 w1 hr1 (by omega))
  clear hr1 hb1 C KT KR HB0
  go_wp2_with fail
  refine C1.out.mono ?_
  rintro e w2 ⟨v, rs, L, H, q, p2, rfl, hs, hsm, hr, hp2, hrd2, hg2⟩
  obtain ⟨A1, n1, k1, A2, n2, k2, rfl, -, -⟩ := hs.form_ hr
  have KT2 := hid (KT1.out.kept hg2 (by simp <;> omega))
  have KR2 := hid (KR1.out.kept hg2 (by simp <;> omega))
  have HX := hid (And.intro hs hsm)
  have X2 := hid hr
  have HB2 := hid (HB1.out.trans (below_own hg2 HB1.out.size (by omega)))
  have C2 := hid (of_lit _ p2 5 20 hdNames w2 hrd2 (by omega) rfl (by omega) (by omega) (by decide))
  have hz2 : w1.heap.size ≤ w2.heap.size := hg2.size
  clear hs hr hsm hrd2 hg2 C1 KT1 KR1
  go_wp2_with fail
  refine C2.out.mono ?_
  rintro e w3 ⟨s, p3, hsz, rfl, hp3, hr3, hg3⟩
  have KT3 := hid (KT2.out.kept hg3 (by simp <;> omega))
  have KR3 := hid (KR2.out.kept hg3 (by simp <;> omega))
  have X3 := hid (X2.out.offR hg3 hs1)
  have HB3 := hid (HB2.out.trans (below_own hg3 HB2.out.size (by omega)))
  have C3 := hid (aLevel_c _ p3 w3 hr3 (by omega))
  have hz3 : w1.heap.size ≤ w3.heap.size := Nat.le_trans hz2 hg3.size
  clear hr3 hg3 C2 KT2 KR2 X2 HB2
  go_wp2_with fail
  refine C3.out.mono ?_
  rintro e w4 ⟨lv, hlv, rfl, hr4, hg4⟩
  have KT4 := hid (KT3.out.kept hg4 (by simp <;> omega))
  have KR4 := hid (KR3.out.kept hg4 (by simp <;> omega))
  have X4 := hid (X3.out.offR hg4 hs1)
  have HB4 := hid (HB3.out.trans (below_own hg4 HB3.out.size (by omega)))
  have C4 := hid (bentFilters_c _ (p3 + 1) w4 hr4 (by omega))
  have hz4 : w1.heap.size ≤ w4.heap.size := Nat.le_trans hz3 hg4.size
  clear hr4 hg4 C3 KT3 KR3 X3 HB3
  go_wp2_with fail
  refine C4.out.mono ?_
  rintro e w5 ⟨vf, fs, p5, rfl, hf4, hfit, ho5, hp5, hr5, hg5⟩
  obtain ⟨fA, fc, rfl, _, _⟩ := (Sl.of_own ho5).form
  have KT5 := hid (KT4.out.kept hg5 (by simp <;> omega))
  have KR5 := hid (KR4.out.kept hg5 (by simp <;> omega))
  have X5 := hid (X4.out.offR hg5 hs1)
  have HB5 := hid (HB4.out.trans (below_own hg5 HB4.out.size (by omega)))
  have HO5 := hid ho5
  have HF := hid hfit
  generalize hfn : fs.length = fn at *
  replace hfn := hid hfn
  clear hr5 hg5 C4 KT4 KR4 X4 HB4 ho5 hfit
  go_wp2_with (refine wpList_stB (P := Tryz.prog) rfl 26 _ _ rfl w.heap.size [.slice A1 n1 k1, .slice A2 n2 k2, .int .i64 q] rfl rfl _ KT5.out rfl (by kernel_rfl) (List.all_eq_true.1 rfl) ?_)
  intro w6 hk6 hg6 hs6
  have KT6 := hid hk6
  have KR6 := hid (KR5.out.kept hg6 (by simp))
  have HB6 := hid (HB5.out.grown hg6 HB5.out.size (by intro z hz; cases hz; omega))
  have X6 := hid (X5.out.offR hg6 (by omega))
  have HO6 := hid (own_off HO5.out hg6 (by omega))
  clear hk6 hg6 hs6 KT5 KR5 HB5 X5 HO5
  go_wp2_with (refine wpList_stB (P := Tryz.prog) rfl 47 _ _ rfl (w.heap.size + 1) [.string s, .int .i64 lv, .slice fA fn fc] rfl rfl _ KR6.out rfl (by kernel_rfl) (List.all_eq_true.1 rfl) ?_)
  intro w7 hk7 hg7 hs7
  have KR7 := hid hk7
  have KT7 := hid (KT6.out.kept hg7 (by simp))
  have HB7 := hid (HB6.out.grown hg7 HB6.out.size (by intro z hz; cases hz; omega))
  have X7 := hid (X6.out.offR hg7 (by omega))
  have HO7 := hid (own_off HO6.out hg7 (by omega))
  clear hk7 hg7 hs7 KT6 KR6 HB6 X6 HO6
  go_wp2_with fail
  have f0 := (KT7.out.2 0 _ rfl).1
  have f1 := (KT7.out.2 1 _ rfl).1
  have f2 := (KT7.out.2 2 _ rfl).1
  have g0 := (KR7.out.2 0 _ rfl).1
  have g1 := (KR7.out.2 1 _ rfl).1
  have g2 := (KR7.out.2 2 _ rfl).1
  refine bodyPost_ret (v := .tuple #[.agg #[.slice A1 n1 k1, .slice A2 n2 k2, .int .i64 q], .agg #[.string s, .int .i64 lv, .slice fA fn fc]]) (by simp [results, Tryz.results27, go_sem, f0, f1, f2, g0, g1, g2]) rfl ?_
  exact ⟨_, rs, L, H, q, s, lv, fA, fn, fc, fs, rfl, HX.out.1, HX.out.2, hsz, hfn.out, hf4, HF.out, own_base HO7.out (by omega), X7.out.base (by omega), HB7.out⟩
end Go.Proofs.YtioegkcekbkblaaGreat
