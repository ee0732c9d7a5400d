/-
  A HANDLER ADDED: the program's AddHandler. By gen_ah4.py.
-/
import Derived.Test.YtioegkcekbkblaaGreatAH3
namespace Go.Proofs.YtioegkcekbkblaaGreat
open Go.RowKit Nm
set_option linter.unusedSimpArgs false
set_option linter.unusedVariables false

def addHdX (L : List Lgr) (H : List Hnd) (q : Int) (x : Hnd) : Option TreeD := changedO L H q (some (L, H ++ [x], q))
theorem addHd_res_fit (L : List Lgr) (H : List Hnd) (q : Int) (x : Hnd) : dataFit (resL (addHdX L H q x)) (resH (addHdX L H q x)) := changed_fit _ _ _ _
set_option maxHeartbeats 8000000 in
set_option maxRecDepth 100000 in
theorem implAddHandler_c {w : World} {B Bf fn fc : Nat} {v : Value} {fA : Option Addr} {L : List Lgr} {H : List Hnd} {q : Int} {fs : List Flt} (s : ByteArray) (lv : Int) (h : TreeIn w B v L H q) (hB : B ≤ w.heap.size) (hf : Sl w Bf 3 fn (.slice fA fn fc) (fsCells fs)) (hBf : Bf ≤ w.heap.size) (hz : hndFit ⟨s.data.toList, lv, fs⟩) (hn : fn ≤ 1048576) :
    Calls Tryz.prog 28 #[v, .agg #[.string s, .int .i64 lv, .slice fA fn fc]] w (TreePostO w (addHdX L H q ⟨s.data.toList, lv, fs⟩)) := by
  obtain ⟨A1, n1, k1, A2, n2, k2, rfl⟩ := h.form
  have HW := hid (show Below w.heap.size w (((w.alloc (.cells #[.slice A1 n1 k1, .slice A2 n2 k2, .int .i64 q] 26)).alloc (.cells #[.string s, .int .i64 lv, .slice fA fn fc] 47)).alloc (.cells #[.slice none 0 0, .slice none 0 0, .int .i64 0] 26)) from (((Below.refl _ _).alloc (Nat.le_refl _) _).alloc (by simp) _).alloc (by simp; omega) _)
  have KA := hid (((Blk.new w #[.slice A1 n1 k1, .slice A2 n2 k2, .int .i64 q] 26).alloc (.cells #[.string s, .int .i64 lv, .slice fA fn fc] 47)).alloc (.cells #[.slice none 0 0, .slice none 0 0, .int .i64 0] 26))
  have KB := hid ((Blk.new (w.alloc (.cells #[.slice A1 n1 k1, .slice A2 n2 k2, .int .i64 q] 26)) #[.string s, .int .i64 lv, .slice fA fn fc] 47).alloc (.cells #[.slice none 0 0, .slice none 0 0, .int .i64 0] 26))
  have KR := hid (Blk.new ((w.alloc (.cells #[.slice A1 n1 k1, .slice A2 n2 k2, .int .i64 q] 26)).alloc (.cells #[.string s, .int .i64 lv, .slice fA fn fc] 47)) #[.slice none 0 0, .slice none 0 0, .int .i64 0] 26)
  simp only [World.size_alloc] at KB KR
  have hsz3 : (((w.alloc (.cells #[.slice A1 n1 k1, .slice A2 n2 k2, .int .i64 q] 26)).alloc (.cells #[.string s, .int .i64 lv, .slice fA fn fc] 47)).alloc (.cells #[.slice none 0 0, .slice none 0 0, .int .i64 0] 26)).heap.size = w.heap.size + 3 := by simp
  have CF := hid (freshFlt_c (.slice fA fn fc) fn Bf fs (((w.alloc (.cells #[.slice A1 n1 k1, .slice A2 n2 k2, .int .i64 q] 26)).alloc (.cells #[.string s, .int .i64 lv, .slice fA fn fc] 47)).alloc (.cells #[.slice none 0 0, .slice none 0 0, .int .i64 0] 26)) (hf.below HW.out hBf) hn)
  have hmf : ∀ (fn : Fn) (first cap : Array Value) (w : World), (Instr.makeFunc fn first cap).run Tryz.prog w = .ok (.func fn first cap) w := fun _ _ _ _ => rfl
  have HT := hid h
  have HZ := hid hz
  have d2 := (KB.out.2 2 _ rfl).1
  have HX := hid (show addHdX L H q ⟨s.data.toList, lv, fs⟩ = changedO L H q (some (L, H ++ [⟨s.data.toList, lv, fs⟩], q)) from rfl)
  generalize addHdX L H q ⟨s.data.toList, lv, fs⟩ = X at *
  clear h hf hz
  go_enter Tryz.func28, Tryz.ntmps28
  go_wp2_with fail
  refine (CF.out).mono ?_
  rintro e w4 ⟨v8, rfl, ho8, hb4⟩
  rw [hsz3] at ho8
  obtain ⟨A8, c8, rfl, _, _⟩ := (Sl.of_own ho8).form
  have HW4 := hid (HW.out.trans (hb4.mono HW.out.size))
  have KA4 := hid (KA.out.to hb4)
  have KB4 := hid (KB.out.to hb4)
  have KR4 := hid (KR.out.to hb4)
  have hw4 : w.heap.size + 3 ≤ w4.heap.size := by have := hb4.size; rw [hsz3] at this; exact this
  have KB5 := hid (KB4.out.set 2 (.slice A8 fn c8))
  have KA5 := hid (KA4.out.apart ⟨w.heap.size + 1, 2, none⟩ (.slice A8 fn c8) (by simp))
  have KR5 := hid (KR4.out.apart ⟨w.heap.size + 1, 2, none⟩ (.slice A8 fn c8) (by simp))
  have HO5 := hid (own_set_low (b := w.heap.size + 1) (j := 2) (u := .slice A8 fn c8) ho8 (by omega))
  have HW5 := hid (HW4.out.setCell (p := ⟨w.heap.size + 1, 2, none⟩) (by simp) (.slice A8 fn c8))
  have hs5 : (w4.setCell ⟨w.heap.size + 1, 2, none⟩ (.slice A8 fn c8)).heap.size = w4.heap.size := World.size_setCell _ _ _
  have y2 := (KB4.out.2 2 _ rfl).1
  have y2f := (KB4.out.2 2 _ rfl).2
  have d0 := (KA5.out.2 0 _ rfl).1
  have d1 := (KA5.out.2 1 _ rfl).1
  have d3 := (KA5.out.2 2 _ rfl).1
  have CQ := hid (implChangedL_c (l0 := w.heap.size + 3) (by rw [hs5]; exact hw4) 64 (.pointer (some ⟨w.heap.size + 1, 0, none⟩)) (some (L, H ++ [⟨s.data.toList, lv, fs⟩], q)) (HT.out.below HW5.out hB) (Nat.le_trans hB HW5.out.size) (fun args w => enters rfl (by kernel_rfl) rfl args w)
    (fun W lo bc v1 v2 rs hok hp => addHdClo_c s lv (by rw [hs5]; exact hw4) HO5.out KB5.out HZ.out hok W lo bc v1 v2 rs hp))
  clear hb4 d2 ho8 hsz3
  go_wp2_with fail
  refine (CQ.out).mono ?_
  rintro e w6 ⟨v', rs, rfl, hs, hr, hb6⟩
  rw [← HX.out] at hs
  obtain ⟨u1, u2, ls, hs', rfl, hL, hH, rfl⟩ := hs
  have HB6 := hid (HW5.out.trans (hb6.mono HW5.out.size))
  obtain ⟨hl, hh⟩ := hr.lsIn
  obtain ⟨A3, c3, rfl, _, _⟩ := hl.1.form
  obtain ⟨A4, c4, rfl, _, _⟩ := hh.1.form
  have HR6 := hid hr
  have KR6 := hid (KR5.out.to hb6)
  have HS6 := hid (And.intro hL hH)
  generalize hq0 : resQ X = q0 at *
  generalize hi0 : (changedO L H q (some (L, H ++ [⟨s.data.toList, lv, fs⟩], q))).isSome = i0 at *
  have HI := hid (show X.isSome = i0 by rw [HX.out]; exact hi0)
  have HQ0 := hid hq0
  clear hq0 hi0 hb6 hr hl hh hL hH d0 d1 d3 y2 y2f
  obtain ⟨q0c, q0f⟩ := KR6.out.2 0 _ rfl
  obtain ⟨q1c, q1f⟩ := KR6.out.2 1 _ rfl
  obtain ⟨q2c, q2f⟩ := KR6.out.2 2 _ rfl
  go_wp2_with fail
  have RB := ((KR6.out.set 0 (.slice A3 ls.length c3)).set 1 (.slice A4 hs'.length c4)).set 2 (.int .i64 q0)
  have f0 := (RB.2 0 _ rfl).1
  have f1 := (RB.2 1 _ rfl).1
  have f2 := (RB.2 2 _ rfl).1
  refine bodyPost_ret (v := .tuple #[.agg #[.slice A3 ls.length c3, .slice A4 hs'.length c4, .int .i64 q0], .bool i0]) (by simp [results, Tryz.results28, go_sem, f0, f1, f2]) rfl ?_
  refine ⟨.agg #[.slice A3 ls.length c3, .slice A4 hs'.length c4, .int .i64 q0], treeRows ls.length (.slice A3 ls.length c3) ls hs'.length (.slice A4 hs'.length c4) hs', by rw [HI.out], ?_, ?_, ?_⟩
  · rw [HQ0.out]; exact ⟨_, _, ls, hs', rfl, HS6.out.1, HS6.out.2, rfl⟩
  · refine Rows.base (lo := w.heap.size + 3) ?_ (by omega)
    iterate 3 refine Rows.low ?_ (by omega)
    exact HR6.out
  · iterate 3 refine Below.setCell ?_ (by simp; try omega) _
    exact HB6.out
end Go.Proofs.YtioegkcekbkblaaGreat
