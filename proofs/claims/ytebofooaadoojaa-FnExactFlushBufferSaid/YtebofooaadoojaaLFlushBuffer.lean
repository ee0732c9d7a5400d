/-
  WALK: the law FnExactFlushBuffer. By gen_any.py.
-/
import Derived.Test.YtebofooaadoojaaS4
import Derived.Test.YtebofooaadoojaaMarks
import Derived.Test.YtebofooaadoojaaKBuf
import Derived.Test.YtebofooaadoojaaKRecs
namespace Go.Proofs.Ytebofooaadoojaa
open Go.RowKit Nm
set_option linter.unusedSimpArgs false
set_option linter.unusedVariables false

set_option maxHeartbeats 16000000 in
set_option maxRecDepth 100000 in
theorem walk_FnExactFlushBuffer (A0 : Option Addr) (n0 c0 : Nat) (d0 : Buf) (w : World) (t0 : BufRaw w w.heap.size A0 n0 c0 d0) :
    Calls Try.prog 6 #[.agg #[.int .i64 d0.rm, .int .i64 d0.lv, .slice A0 n0 c0]] w (BoolPost w true) := by
  have T0 := hid t0
  clear t0
  have HB := hid (Below.refl w.heap.size w)
  have hr : Rows (w.alloc (.cells #[.int .i64 d0.rm, .int .i64 d0.lv, .slice A0 n0 c0] 24)) w.heap.size [bxRow 24 3 (w.heap.size) [.int .i64 d0.rm, .int .i64 d0.lv, .slice A0 n0 c0]] := by have h := Rows.box w #[.int .i64 d0.rm, .int .i64 d0.lv, .slice A0 n0 c0] 24 3 rfl; simpa using h
  have hb : Below w.heap.size w (w.alloc (.cells #[.int .i64 d0.rm, .int .i64 d0.lv, .slice A0 n0 c0] 24)) := (Below.refl _ _).alloc (Nat.le_refl _) _
  have HR := hid hr
  replace HB := hid (HB.out.trans (hb.mono HB.out.size))
  clear hb hr
  have da00 : (w.alloc (.cells #[.int .i64 d0.rm, .int .i64 d0.lv, .slice A0 n0 c0] 24)).cell? ⟨w.heap.size, 0, none⟩ = some (.int .i64 d0.rm) := (Rows.bcell (T := 24) (d := 3) (b := w.heap.size) (cs := [.int .i64 d0.rm, .int .i64 d0.lv, .slice A0 n0 c0]) (q := 0) (HR.out) (List.mem_singleton.2 rfl) rfl).1
  have da01 : (w.alloc (.cells #[.int .i64 d0.rm, .int .i64 d0.lv, .slice A0 n0 c0] 24)).cell? ⟨w.heap.size, 1, none⟩ = some (.int .i64 d0.lv) := (Rows.bcell (T := 24) (d := 3) (b := w.heap.size) (cs := [.int .i64 d0.rm, .int .i64 d0.lv, .slice A0 n0 c0]) (q := 1) (HR.out) (List.mem_singleton.2 rfl) rfl).1
  have da02 : (w.alloc (.cells #[.int .i64 d0.rm, .int .i64 d0.lv, .slice A0 n0 c0] 24)).cell? ⟨w.heap.size, 2, none⟩ = some (.slice A0 n0 c0) := (Rows.bcell (T := 24) (d := 3) (b := w.heap.size) (cs := [.int .i64 d0.rm, .int .i64 d0.lv, .slice A0 n0 c0]) (q := 2) (HR.out) (List.mem_singleton.2 rfl) rfl).1
  have ta0 : w.heap.size < (w.alloc (.cells #[.int .i64 d0.rm, .int .i64 d0.lv, .slice A0 n0 c0] 24)).heap.size := (Rows.bcell (T := 24) (d := 3) (b := w.heap.size) (cs := [.int .i64 d0.rm, .int .i64 d0.lv, .slice A0 n0 c0]) (q := 0) (HR.out) (List.mem_singleton.2 rfl) rfl).2
  go_enter Try.func6, Try.ntmps6
  go_wp2_with fail
  refine (szBufferY_c A0 n0 c0 d0 w.heap.size _ _ (T0.out.below HB.out (Nat.le_refl _)) HB.out.size (by omega) (by omega)).mono ?_
  rintro e w1 ⟨r0, rfl, hb, hr⟩
  replace HR := hid (HR.out.below hb)
  replace HB := hid (HB.out.trans (hb.mono HB.out.size))
  clear hb
  clear da00 da01 da02 ta0
  have da00 : w1.cell? ⟨w.heap.size, 0, none⟩ = some (.int .i64 d0.rm) := (Rows.bcell (T := 24) (d := 3) (b := w.heap.size) (cs := [.int .i64 d0.rm, .int .i64 d0.lv, .slice A0 n0 c0]) (q := 0) (HR.out) (List.mem_singleton.2 rfl) rfl).1
  have da01 : w1.cell? ⟨w.heap.size, 1, none⟩ = some (.int .i64 d0.lv) := (Rows.bcell (T := 24) (d := 3) (b := w.heap.size) (cs := [.int .i64 d0.rm, .int .i64 d0.lv, .slice A0 n0 c0]) (q := 1) (HR.out) (List.mem_singleton.2 rfl) rfl).1
  have da02 : w1.cell? ⟨w.heap.size, 2, none⟩ = some (.slice A0 n0 c0) := (Rows.bcell (T := 24) (d := 3) (b := w.heap.size) (cs := [.int .i64 d0.rm, .int .i64 d0.lv, .slice A0 n0 c0]) (q := 2) (HR.out) (List.mem_singleton.2 rfl) rfl).1
  have ta0 : w.heap.size < w1.heap.size := (Rows.bcell (T := 24) (d := 3) (b := w.heap.size) (cs := [.int .i64 d0.rm, .int .i64 d0.lv, .slice A0 n0 c0]) (q := 0) (HR.out) (List.mem_singleton.2 rfl) rfl).2
  rcases hr with hr | ⟨hr0, hr1, hfit⟩
  · go_wp2_with fail
    go_ret
    exact ⟨rfl, HB.out⟩
  have F0 := hid hfit
  clear hfit
  have cS : ∀ (W : World) (v0 : Value) (h0 : BufIn W W.heap.size v0 d0), Calls Try.prog 29 #[v0] W (fun e w2 => ∃ (u0 : Value) (rs0 : List Row), ∃ (u1 : Value) (rs1 : List Row), e = .returned (.tuple #[u0, u1]) ∧ BufR rs0 u0 (flushB d0) ∧ RecsR rs1 u1 (flushR d0) ∧ Rows w2 W.heap.size (rs0 ++ (rs1)) ∧ Below W.heap.size W w2) := fun W v0 h0 => specFlush_c h0 (Nat.le_refl _)
  have cI : ∀ (W : World) (v0 : Value) (h0 : BufIn W W.heap.size v0 d0), Calls Try.prog 30 #[v0] W (fun e w2 => ∃ (u0 : Value) (rs0 : List Row), ∃ (u1 : Value) (rs1 : List Row), e = .returned (.tuple #[u0, u1]) ∧ BufR rs0 u0 (flushB d0) ∧ RecsR rs1 u1 (flushR d0) ∧ Rows w2 W.heap.size (rs0 ++ (rs1)) ∧ Below W.heap.size W w2) := fun W v0 h0 => implFlush_c h0 (Nat.le_refl _)
  have DX0 : BufFit (flushB d0) := flushB_fit F0.out
  generalize flushB d0 = X0 at cS cI DX0
  replace DX0 := hid DX0
  have DX1 : RecsFit (flushR d0) := flushR_fit F0.out
  generalize flushR d0 = X1 at cS cI DX1
  replace DX1 := hid DX1
  replace cS := hid cS
  replace cI := hid cI
  go_wp2_with fail
  refine (toBufferY_c A0 n0 c0 d0 w.heap.size _ (T0.out.below HB.out (Nat.le_refl _)) HB.out.size F0.out).mono ?_
  rintro e w2 ⟨v, rs, rfl, hs, hr, hb⟩
  obtain ⟨fs00, fs01, fs02, rfl⟩ := hs.form hr
  have Ss0 := hid hs
  clear hs
  replace HR := hid (HR.out.newer hb hr HB.out.size)
  replace HB := hid (HB.out.trans (hb.mono HB.out.size))
  clear hb hr
  clear da00 da01 da02 ta0
  have da00 : w2.cell? ⟨w.heap.size, 0, none⟩ = some (.int .i64 d0.rm) := (Rows.bcell (T := 24) (d := 3) (b := w.heap.size) (cs := [.int .i64 d0.rm, .int .i64 d0.lv, .slice A0 n0 c0]) (q := 0) (HR.out.right) (List.mem_singleton.2 rfl) rfl).1
  have da01 : w2.cell? ⟨w.heap.size, 1, none⟩ = some (.int .i64 d0.lv) := (Rows.bcell (T := 24) (d := 3) (b := w.heap.size) (cs := [.int .i64 d0.rm, .int .i64 d0.lv, .slice A0 n0 c0]) (q := 1) (HR.out.right) (List.mem_singleton.2 rfl) rfl).1
  have da02 : w2.cell? ⟨w.heap.size, 2, none⟩ = some (.slice A0 n0 c0) := (Rows.bcell (T := 24) (d := 3) (b := w.heap.size) (cs := [.int .i64 d0.rm, .int .i64 d0.lv, .slice A0 n0 c0]) (q := 2) (HR.out.right) (List.mem_singleton.2 rfl) rfl).1
  have ta0 : w.heap.size < w2.heap.size := (Rows.bcell (T := 24) (d := 3) (b := w.heap.size) (cs := [.int .i64 d0.rm, .int .i64 d0.lv, .slice A0 n0 c0]) (q := 0) (HR.out.right) (List.mem_singleton.2 rfl) rfl).2
  go_wp2_with fail
  refine (cS.out _ _ (Ss0.out.at_ (HR.out.left) F0.out)).mono ?_
  rintro e w3 ⟨v0, rs0, v1, rs1, rfl, hs0, hs1, hr, hb⟩
  obtain ⟨fW00, fW01, fW02, rfl⟩ := hs0.form hr.left
  have SW0 := hid hs0
  obtain ⟨fW10, fW11, fW12, rfl⟩ := hs1.form hr.right
  have SW1 := hid hs1
  clear hs0 hs1
  replace HR := hid (HR.out.newer hb hr HB.out.size)
  replace HR := hid (by simpa only [List.append_assoc] using HR.out)
  replace HB := hid (HB.out.trans (hb.mono HB.out.size))
  clear hb hr
  clear da00 da01 da02 ta0
  have da00 : w3.cell? ⟨w.heap.size, 0, none⟩ = some (.int .i64 d0.rm) := (Rows.bcell (T := 24) (d := 3) (b := w.heap.size) (cs := [.int .i64 d0.rm, .int .i64 d0.lv, .slice A0 n0 c0]) (q := 0) (HR.out.right.right.right) (List.mem_singleton.2 rfl) rfl).1
  have da01 : w3.cell? ⟨w.heap.size, 1, none⟩ = some (.int .i64 d0.lv) := (Rows.bcell (T := 24) (d := 3) (b := w.heap.size) (cs := [.int .i64 d0.rm, .int .i64 d0.lv, .slice A0 n0 c0]) (q := 1) (HR.out.right.right.right) (List.mem_singleton.2 rfl) rfl).1
  have da02 : w3.cell? ⟨w.heap.size, 2, none⟩ = some (.slice A0 n0 c0) := (Rows.bcell (T := 24) (d := 3) (b := w.heap.size) (cs := [.int .i64 d0.rm, .int .i64 d0.lv, .slice A0 n0 c0]) (q := 2) (HR.out.right.right.right) (List.mem_singleton.2 rfl) rfl).1
  have ta0 : w.heap.size < w3.heap.size := (Rows.bcell (T := 24) (d := 3) (b := w.heap.size) (cs := [.int .i64 d0.rm, .int .i64 d0.lv, .slice A0 n0 c0]) (q := 0) (HR.out.right.right.right) (List.mem_singleton.2 rfl) rfl).2
  have hb : Below w3.heap.size w3 (w3.alloc (.cells #[.int .i64 X0.rm, .int .i64 X0.lv, .slice fW00 fW01 fW02] 29)) := (Below.refl _ _).alloc (Nat.le_refl _) _
  have hr := Rows.box w3 #[.int .i64 X0.rm, .int .i64 X0.lv, .slice fW00 fW01 fW02] 29 3 rfl
  replace HR := hid (HR.out.newer hb hr HB.out.size)
  replace HB := hid (HB.out.trans (hb.mono HB.out.size))
  clear hb hr
  clear da00 da01 da02 ta0
  have dbW00 : (w3.alloc (.cells #[.int .i64 X0.rm, .int .i64 X0.lv, .slice fW00 fW01 fW02] 29)).cell? ⟨w3.heap.size, 0, none⟩ = some (.int .i64 X0.rm) := (Rows.bcell (T := 29) (d := 3) (b := w3.heap.size) (cs := [.int .i64 X0.rm, .int .i64 X0.lv, .slice fW00 fW01 fW02]) (q := 0) (HR.out.left) (List.mem_singleton.2 rfl) rfl).1
  have dbW01 : (w3.alloc (.cells #[.int .i64 X0.rm, .int .i64 X0.lv, .slice fW00 fW01 fW02] 29)).cell? ⟨w3.heap.size, 1, none⟩ = some (.int .i64 X0.lv) := (Rows.bcell (T := 29) (d := 3) (b := w3.heap.size) (cs := [.int .i64 X0.rm, .int .i64 X0.lv, .slice fW00 fW01 fW02]) (q := 1) (HR.out.left) (List.mem_singleton.2 rfl) rfl).1
  have dbW02 : (w3.alloc (.cells #[.int .i64 X0.rm, .int .i64 X0.lv, .slice fW00 fW01 fW02] 29)).cell? ⟨w3.heap.size, 2, none⟩ = some (.slice fW00 fW01 fW02) := (Rows.bcell (T := 29) (d := 3) (b := w3.heap.size) (cs := [.int .i64 X0.rm, .int .i64 X0.lv, .slice fW00 fW01 fW02]) (q := 2) (HR.out.left) (List.mem_singleton.2 rfl) rfl).1
  have tbW0 : w3.heap.size < (w3.alloc (.cells #[.int .i64 X0.rm, .int .i64 X0.lv, .slice fW00 fW01 fW02] 29)).heap.size := (Rows.bcell (T := 29) (d := 3) (b := w3.heap.size) (cs := [.int .i64 X0.rm, .int .i64 X0.lv, .slice fW00 fW01 fW02]) (q := 0) (HR.out.left) (List.mem_singleton.2 rfl) rfl).2
  have da00 : (w3.alloc (.cells #[.int .i64 X0.rm, .int .i64 X0.lv, .slice fW00 fW01 fW02] 29)).cell? ⟨w.heap.size, 0, none⟩ = some (.int .i64 d0.rm) := (Rows.bcell (T := 24) (d := 3) (b := w.heap.size) (cs := [.int .i64 d0.rm, .int .i64 d0.lv, .slice A0 n0 c0]) (q := 0) (HR.out.right.right.right.right) (List.mem_singleton.2 rfl) rfl).1
  have da01 : (w3.alloc (.cells #[.int .i64 X0.rm, .int .i64 X0.lv, .slice fW00 fW01 fW02] 29)).cell? ⟨w.heap.size, 1, none⟩ = some (.int .i64 d0.lv) := (Rows.bcell (T := 24) (d := 3) (b := w.heap.size) (cs := [.int .i64 d0.rm, .int .i64 d0.lv, .slice A0 n0 c0]) (q := 1) (HR.out.right.right.right.right) (List.mem_singleton.2 rfl) rfl).1
  have da02 : (w3.alloc (.cells #[.int .i64 X0.rm, .int .i64 X0.lv, .slice fW00 fW01 fW02] 29)).cell? ⟨w.heap.size, 2, none⟩ = some (.slice A0 n0 c0) := (Rows.bcell (T := 24) (d := 3) (b := w.heap.size) (cs := [.int .i64 d0.rm, .int .i64 d0.lv, .slice A0 n0 c0]) (q := 2) (HR.out.right.right.right.right) (List.mem_singleton.2 rfl) rfl).1
  have ta0 : w.heap.size < (w3.alloc (.cells #[.int .i64 X0.rm, .int .i64 X0.lv, .slice fW00 fW01 fW02] 29)).heap.size := (Rows.bcell (T := 24) (d := 3) (b := w.heap.size) (cs := [.int .i64 d0.rm, .int .i64 d0.lv, .slice A0 n0 c0]) (q := 0) (HR.out.right.right.right.right) (List.mem_singleton.2 rfl) rfl).2
  replace HR := hid (HR.out.sub ((List.Sublist.refl _).append ((List.Sublist.refl _).append ((List.Sublist.refl _).append (List.sublist_append_right _ _)))))
  clear Ss0
  go_wp2_with fail
  refine (toBufferY_c A0 n0 c0 d0 w.heap.size _ (T0.out.below HB.out (Nat.le_refl _)) HB.out.size F0.out).mono ?_
  rintro e w4 ⟨v, rs, rfl, hs, hr, hb⟩
  obtain ⟨fx00, fx01, fx02, rfl⟩ := hs.form hr
  have Sx0 := hid hs
  clear hs
  replace HR := hid (HR.out.newer hb hr HB.out.size)
  replace HB := hid (HB.out.trans (hb.mono HB.out.size))
  clear hb hr
  clear dbW00 dbW01 dbW02 tbW0 da00 da01 da02 ta0
  have dbW00 : w4.cell? ⟨w3.heap.size, 0, none⟩ = some (.int .i64 X0.rm) := (Rows.bcell (T := 29) (d := 3) (b := w3.heap.size) (cs := [.int .i64 X0.rm, .int .i64 X0.lv, .slice fW00 fW01 fW02]) (q := 0) (HR.out.right.left) (List.mem_singleton.2 rfl) rfl).1
  have dbW01 : w4.cell? ⟨w3.heap.size, 1, none⟩ = some (.int .i64 X0.lv) := (Rows.bcell (T := 29) (d := 3) (b := w3.heap.size) (cs := [.int .i64 X0.rm, .int .i64 X0.lv, .slice fW00 fW01 fW02]) (q := 1) (HR.out.right.left) (List.mem_singleton.2 rfl) rfl).1
  have dbW02 : w4.cell? ⟨w3.heap.size, 2, none⟩ = some (.slice fW00 fW01 fW02) := (Rows.bcell (T := 29) (d := 3) (b := w3.heap.size) (cs := [.int .i64 X0.rm, .int .i64 X0.lv, .slice fW00 fW01 fW02]) (q := 2) (HR.out.right.left) (List.mem_singleton.2 rfl) rfl).1
  have tbW0 : w3.heap.size < w4.heap.size := (Rows.bcell (T := 29) (d := 3) (b := w3.heap.size) (cs := [.int .i64 X0.rm, .int .i64 X0.lv, .slice fW00 fW01 fW02]) (q := 0) (HR.out.right.left) (List.mem_singleton.2 rfl) rfl).2
  have da00 : w4.cell? ⟨w.heap.size, 0, none⟩ = some (.int .i64 d0.rm) := (Rows.bcell (T := 24) (d := 3) (b := w.heap.size) (cs := [.int .i64 d0.rm, .int .i64 d0.lv, .slice A0 n0 c0]) (q := 0) (HR.out.right.right.right.right) (List.mem_singleton.2 rfl) rfl).1
  have da01 : w4.cell? ⟨w.heap.size, 1, none⟩ = some (.int .i64 d0.lv) := (Rows.bcell (T := 24) (d := 3) (b := w.heap.size) (cs := [.int .i64 d0.rm, .int .i64 d0.lv, .slice A0 n0 c0]) (q := 1) (HR.out.right.right.right.right) (List.mem_singleton.2 rfl) rfl).1
  have da02 : w4.cell? ⟨w.heap.size, 2, none⟩ = some (.slice A0 n0 c0) := (Rows.bcell (T := 24) (d := 3) (b := w.heap.size) (cs := [.int .i64 d0.rm, .int .i64 d0.lv, .slice A0 n0 c0]) (q := 2) (HR.out.right.right.right.right) (List.mem_singleton.2 rfl) rfl).1
  have ta0 : w.heap.size < w4.heap.size := (Rows.bcell (T := 24) (d := 3) (b := w.heap.size) (cs := [.int .i64 d0.rm, .int .i64 d0.lv, .slice A0 n0 c0]) (q := 0) (HR.out.right.right.right.right) (List.mem_singleton.2 rfl) rfl).2
  have hb : Below w4.heap.size w4 (w4.alloc (.cells #[.int .i64 d0.rm, .int .i64 d0.lv, .slice fx00 fx01 fx02] 29)) := (Below.refl _ _).alloc (Nat.le_refl _) _
  have hr := Rows.box w4 #[.int .i64 d0.rm, .int .i64 d0.lv, .slice fx00 fx01 fx02] 29 3 rfl
  replace HR := hid (HR.out.newer hb hr HB.out.size)
  replace HB := hid (HB.out.trans (hb.mono HB.out.size))
  clear hb hr
  clear dbW00 dbW01 dbW02 tbW0 da00 da01 da02 ta0
  have dbx00 : (w4.alloc (.cells #[.int .i64 d0.rm, .int .i64 d0.lv, .slice fx00 fx01 fx02] 29)).cell? ⟨w4.heap.size, 0, none⟩ = some (.int .i64 d0.rm) := (Rows.bcell (T := 29) (d := 3) (b := w4.heap.size) (cs := [.int .i64 d0.rm, .int .i64 d0.lv, .slice fx00 fx01 fx02]) (q := 0) (HR.out.left) (List.mem_singleton.2 rfl) rfl).1
  have dbx01 : (w4.alloc (.cells #[.int .i64 d0.rm, .int .i64 d0.lv, .slice fx00 fx01 fx02] 29)).cell? ⟨w4.heap.size, 1, none⟩ = some (.int .i64 d0.lv) := (Rows.bcell (T := 29) (d := 3) (b := w4.heap.size) (cs := [.int .i64 d0.rm, .int .i64 d0.lv, .slice fx00 fx01 fx02]) (q := 1) (HR.out.left) (List.mem_singleton.2 rfl) rfl).1
  have dbx02 : (w4.alloc (.cells #[.int .i64 d0.rm, .int .i64 d0.lv, .slice fx00 fx01 fx02] 29)).cell? ⟨w4.heap.size, 2, none⟩ = some (.slice fx00 fx01 fx02) := (Rows.bcell (T := 29) (d := 3) (b := w4.heap.size) (cs := [.int .i64 d0.rm, .int .i64 d0.lv, .slice fx00 fx01 fx02]) (q := 2) (HR.out.left) (List.mem_singleton.2 rfl) rfl).1
  have tbx0 : w4.heap.size < (w4.alloc (.cells #[.int .i64 d0.rm, .int .i64 d0.lv, .slice fx00 fx01 fx02] 29)).heap.size := (Rows.bcell (T := 29) (d := 3) (b := w4.heap.size) (cs := [.int .i64 d0.rm, .int .i64 d0.lv, .slice fx00 fx01 fx02]) (q := 0) (HR.out.left) (List.mem_singleton.2 rfl) rfl).2
  have dbW00 : (w4.alloc (.cells #[.int .i64 d0.rm, .int .i64 d0.lv, .slice fx00 fx01 fx02] 29)).cell? ⟨w3.heap.size, 0, none⟩ = some (.int .i64 X0.rm) := (Rows.bcell (T := 29) (d := 3) (b := w3.heap.size) (cs := [.int .i64 X0.rm, .int .i64 X0.lv, .slice fW00 fW01 fW02]) (q := 0) (HR.out.right.right.left) (List.mem_singleton.2 rfl) rfl).1
  have dbW01 : (w4.alloc (.cells #[.int .i64 d0.rm, .int .i64 d0.lv, .slice fx00 fx01 fx02] 29)).cell? ⟨w3.heap.size, 1, none⟩ = some (.int .i64 X0.lv) := (Rows.bcell (T := 29) (d := 3) (b := w3.heap.size) (cs := [.int .i64 X0.rm, .int .i64 X0.lv, .slice fW00 fW01 fW02]) (q := 1) (HR.out.right.right.left) (List.mem_singleton.2 rfl) rfl).1
  have dbW02 : (w4.alloc (.cells #[.int .i64 d0.rm, .int .i64 d0.lv, .slice fx00 fx01 fx02] 29)).cell? ⟨w3.heap.size, 2, none⟩ = some (.slice fW00 fW01 fW02) := (Rows.bcell (T := 29) (d := 3) (b := w3.heap.size) (cs := [.int .i64 X0.rm, .int .i64 X0.lv, .slice fW00 fW01 fW02]) (q := 2) (HR.out.right.right.left) (List.mem_singleton.2 rfl) rfl).1
  have tbW0 : w3.heap.size < (w4.alloc (.cells #[.int .i64 d0.rm, .int .i64 d0.lv, .slice fx00 fx01 fx02] 29)).heap.size := (Rows.bcell (T := 29) (d := 3) (b := w3.heap.size) (cs := [.int .i64 X0.rm, .int .i64 X0.lv, .slice fW00 fW01 fW02]) (q := 0) (HR.out.right.right.left) (List.mem_singleton.2 rfl) rfl).2
  have da00 : (w4.alloc (.cells #[.int .i64 d0.rm, .int .i64 d0.lv, .slice fx00 fx01 fx02] 29)).cell? ⟨w.heap.size, 0, none⟩ = some (.int .i64 d0.rm) := (Rows.bcell (T := 24) (d := 3) (b := w.heap.size) (cs := [.int .i64 d0.rm, .int .i64 d0.lv, .slice A0 n0 c0]) (q := 0) (HR.out.right.right.right.right.right) (List.mem_singleton.2 rfl) rfl).1
  have da01 : (w4.alloc (.cells #[.int .i64 d0.rm, .int .i64 d0.lv, .slice fx00 fx01 fx02] 29)).cell? ⟨w.heap.size, 1, none⟩ = some (.int .i64 d0.lv) := (Rows.bcell (T := 24) (d := 3) (b := w.heap.size) (cs := [.int .i64 d0.rm, .int .i64 d0.lv, .slice A0 n0 c0]) (q := 1) (HR.out.right.right.right.right.right) (List.mem_singleton.2 rfl) rfl).1
  have da02 : (w4.alloc (.cells #[.int .i64 d0.rm, .int .i64 d0.lv, .slice fx00 fx01 fx02] 29)).cell? ⟨w.heap.size, 2, none⟩ = some (.slice A0 n0 c0) := (Rows.bcell (T := 24) (d := 3) (b := w.heap.size) (cs := [.int .i64 d0.rm, .int .i64 d0.lv, .slice A0 n0 c0]) (q := 2) (HR.out.right.right.right.right.right) (List.mem_singleton.2 rfl) rfl).1
  have ta0 : w.heap.size < (w4.alloc (.cells #[.int .i64 d0.rm, .int .i64 d0.lv, .slice fx00 fx01 fx02] 29)).heap.size := (Rows.bcell (T := 24) (d := 3) (b := w.heap.size) (cs := [.int .i64 d0.rm, .int .i64 d0.lv, .slice A0 n0 c0]) (q := 0) (HR.out.right.right.right.right.right) (List.mem_singleton.2 rfl) rfl).2
  go_wp2_with fail
  refine (cI.out _ _ (Sx0.out.at_ (HR.out.right.left) F0.out)).mono ?_
  rintro e w5 ⟨v0, rs0, v1, rs1, rfl, hs0, hs1, hr, hb⟩
  obtain ⟨fG00, fG01, fG02, rfl⟩ := hs0.form hr.left
  have SG0 := hid hs0
  obtain ⟨fG10, fG11, fG12, rfl⟩ := hs1.form hr.right
  have SG1 := hid hs1
  clear hs0 hs1
  replace HR := hid (HR.out.newer hb hr HB.out.size)
  replace HR := hid (by simpa only [List.append_assoc] using HR.out)
  replace HB := hid (HB.out.trans (hb.mono HB.out.size))
  clear hb hr
  clear dbx00 dbx01 dbx02 tbx0 dbW00 dbW01 dbW02 tbW0 da00 da01 da02 ta0
  have dbx00 : w5.cell? ⟨w4.heap.size, 0, none⟩ = some (.int .i64 d0.rm) := (Rows.bcell (T := 29) (d := 3) (b := w4.heap.size) (cs := [.int .i64 d0.rm, .int .i64 d0.lv, .slice fx00 fx01 fx02]) (q := 0) (HR.out.right.right.left) (List.mem_singleton.2 rfl) rfl).1
  have dbx01 : w5.cell? ⟨w4.heap.size, 1, none⟩ = some (.int .i64 d0.lv) := (Rows.bcell (T := 29) (d := 3) (b := w4.heap.size) (cs := [.int .i64 d0.rm, .int .i64 d0.lv, .slice fx00 fx01 fx02]) (q := 1) (HR.out.right.right.left) (List.mem_singleton.2 rfl) rfl).1
  have dbx02 : w5.cell? ⟨w4.heap.size, 2, none⟩ = some (.slice fx00 fx01 fx02) := (Rows.bcell (T := 29) (d := 3) (b := w4.heap.size) (cs := [.int .i64 d0.rm, .int .i64 d0.lv, .slice fx00 fx01 fx02]) (q := 2) (HR.out.right.right.left) (List.mem_singleton.2 rfl) rfl).1
  have tbx0 : w4.heap.size < w5.heap.size := (Rows.bcell (T := 29) (d := 3) (b := w4.heap.size) (cs := [.int .i64 d0.rm, .int .i64 d0.lv, .slice fx00 fx01 fx02]) (q := 0) (HR.out.right.right.left) (List.mem_singleton.2 rfl) rfl).2
  have dbW00 : w5.cell? ⟨w3.heap.size, 0, none⟩ = some (.int .i64 X0.rm) := (Rows.bcell (T := 29) (d := 3) (b := w3.heap.size) (cs := [.int .i64 X0.rm, .int .i64 X0.lv, .slice fW00 fW01 fW02]) (q := 0) (HR.out.right.right.right.right.left) (List.mem_singleton.2 rfl) rfl).1
  have dbW01 : w5.cell? ⟨w3.heap.size, 1, none⟩ = some (.int .i64 X0.lv) := (Rows.bcell (T := 29) (d := 3) (b := w3.heap.size) (cs := [.int .i64 X0.rm, .int .i64 X0.lv, .slice fW00 fW01 fW02]) (q := 1) (HR.out.right.right.right.right.left) (List.mem_singleton.2 rfl) rfl).1
  have dbW02 : w5.cell? ⟨w3.heap.size, 2, none⟩ = some (.slice fW00 fW01 fW02) := (Rows.bcell (T := 29) (d := 3) (b := w3.heap.size) (cs := [.int .i64 X0.rm, .int .i64 X0.lv, .slice fW00 fW01 fW02]) (q := 2) (HR.out.right.right.right.right.left) (List.mem_singleton.2 rfl) rfl).1
  have tbW0 : w3.heap.size < w5.heap.size := (Rows.bcell (T := 29) (d := 3) (b := w3.heap.size) (cs := [.int .i64 X0.rm, .int .i64 X0.lv, .slice fW00 fW01 fW02]) (q := 0) (HR.out.right.right.right.right.left) (List.mem_singleton.2 rfl) rfl).2
  have da00 : w5.cell? ⟨w.heap.size, 0, none⟩ = some (.int .i64 d0.rm) := (Rows.bcell (T := 24) (d := 3) (b := w.heap.size) (cs := [.int .i64 d0.rm, .int .i64 d0.lv, .slice A0 n0 c0]) (q := 0) (HR.out.right.right.right.right.right.right.right) (List.mem_singleton.2 rfl) rfl).1
  have da01 : w5.cell? ⟨w.heap.size, 1, none⟩ = some (.int .i64 d0.lv) := (Rows.bcell (T := 24) (d := 3) (b := w.heap.size) (cs := [.int .i64 d0.rm, .int .i64 d0.lv, .slice A0 n0 c0]) (q := 1) (HR.out.right.right.right.right.right.right.right) (List.mem_singleton.2 rfl) rfl).1
  have da02 : w5.cell? ⟨w.heap.size, 2, none⟩ = some (.slice A0 n0 c0) := (Rows.bcell (T := 24) (d := 3) (b := w.heap.size) (cs := [.int .i64 d0.rm, .int .i64 d0.lv, .slice A0 n0 c0]) (q := 2) (HR.out.right.right.right.right.right.right.right) (List.mem_singleton.2 rfl) rfl).1
  have ta0 : w.heap.size < w5.heap.size := (Rows.bcell (T := 24) (d := 3) (b := w.heap.size) (cs := [.int .i64 d0.rm, .int .i64 d0.lv, .slice A0 n0 c0]) (q := 0) (HR.out.right.right.right.right.right.right.right) (List.mem_singleton.2 rfl) rfl).2
  have hb : Below w5.heap.size w5 (w5.alloc (.cells #[.int .i64 X0.rm, .int .i64 X0.lv, .slice fG00 fG01 fG02] 29)) := (Below.refl _ _).alloc (Nat.le_refl _) _
  have hr := Rows.box w5 #[.int .i64 X0.rm, .int .i64 X0.lv, .slice fG00 fG01 fG02] 29 3 rfl
  replace HR := hid (HR.out.newer hb hr HB.out.size)
  replace HB := hid (HB.out.trans (hb.mono HB.out.size))
  clear hb hr
  clear dbx00 dbx01 dbx02 tbx0 dbW00 dbW01 dbW02 tbW0 da00 da01 da02 ta0
  have dbG00 : (w5.alloc (.cells #[.int .i64 X0.rm, .int .i64 X0.lv, .slice fG00 fG01 fG02] 29)).cell? ⟨w5.heap.size, 0, none⟩ = some (.int .i64 X0.rm) := (Rows.bcell (T := 29) (d := 3) (b := w5.heap.size) (cs := [.int .i64 X0.rm, .int .i64 X0.lv, .slice fG00 fG01 fG02]) (q := 0) (HR.out.left) (List.mem_singleton.2 rfl) rfl).1
  have dbG01 : (w5.alloc (.cells #[.int .i64 X0.rm, .int .i64 X0.lv, .slice fG00 fG01 fG02] 29)).cell? ⟨w5.heap.size, 1, none⟩ = some (.int .i64 X0.lv) := (Rows.bcell (T := 29) (d := 3) (b := w5.heap.size) (cs := [.int .i64 X0.rm, .int .i64 X0.lv, .slice fG00 fG01 fG02]) (q := 1) (HR.out.left) (List.mem_singleton.2 rfl) rfl).1
  have dbG02 : (w5.alloc (.cells #[.int .i64 X0.rm, .int .i64 X0.lv, .slice fG00 fG01 fG02] 29)).cell? ⟨w5.heap.size, 2, none⟩ = some (.slice fG00 fG01 fG02) := (Rows.bcell (T := 29) (d := 3) (b := w5.heap.size) (cs := [.int .i64 X0.rm, .int .i64 X0.lv, .slice fG00 fG01 fG02]) (q := 2) (HR.out.left) (List.mem_singleton.2 rfl) rfl).1
  have tbG0 : w5.heap.size < (w5.alloc (.cells #[.int .i64 X0.rm, .int .i64 X0.lv, .slice fG00 fG01 fG02] 29)).heap.size := (Rows.bcell (T := 29) (d := 3) (b := w5.heap.size) (cs := [.int .i64 X0.rm, .int .i64 X0.lv, .slice fG00 fG01 fG02]) (q := 0) (HR.out.left) (List.mem_singleton.2 rfl) rfl).2
  have dbx00 : (w5.alloc (.cells #[.int .i64 X0.rm, .int .i64 X0.lv, .slice fG00 fG01 fG02] 29)).cell? ⟨w4.heap.size, 0, none⟩ = some (.int .i64 d0.rm) := (Rows.bcell (T := 29) (d := 3) (b := w4.heap.size) (cs := [.int .i64 d0.rm, .int .i64 d0.lv, .slice fx00 fx01 fx02]) (q := 0) (HR.out.right.right.right.left) (List.mem_singleton.2 rfl) rfl).1
  have dbx01 : (w5.alloc (.cells #[.int .i64 X0.rm, .int .i64 X0.lv, .slice fG00 fG01 fG02] 29)).cell? ⟨w4.heap.size, 1, none⟩ = some (.int .i64 d0.lv) := (Rows.bcell (T := 29) (d := 3) (b := w4.heap.size) (cs := [.int .i64 d0.rm, .int .i64 d0.lv, .slice fx00 fx01 fx02]) (q := 1) (HR.out.right.right.right.left) (List.mem_singleton.2 rfl) rfl).1
  have dbx02 : (w5.alloc (.cells #[.int .i64 X0.rm, .int .i64 X0.lv, .slice fG00 fG01 fG02] 29)).cell? ⟨w4.heap.size, 2, none⟩ = some (.slice fx00 fx01 fx02) := (Rows.bcell (T := 29) (d := 3) (b := w4.heap.size) (cs := [.int .i64 d0.rm, .int .i64 d0.lv, .slice fx00 fx01 fx02]) (q := 2) (HR.out.right.right.right.left) (List.mem_singleton.2 rfl) rfl).1
  have tbx0 : w4.heap.size < (w5.alloc (.cells #[.int .i64 X0.rm, .int .i64 X0.lv, .slice fG00 fG01 fG02] 29)).heap.size := (Rows.bcell (T := 29) (d := 3) (b := w4.heap.size) (cs := [.int .i64 d0.rm, .int .i64 d0.lv, .slice fx00 fx01 fx02]) (q := 0) (HR.out.right.right.right.left) (List.mem_singleton.2 rfl) rfl).2
  have dbW00 : (w5.alloc (.cells #[.int .i64 X0.rm, .int .i64 X0.lv, .slice fG00 fG01 fG02] 29)).cell? ⟨w3.heap.size, 0, none⟩ = some (.int .i64 X0.rm) := (Rows.bcell (T := 29) (d := 3) (b := w3.heap.size) (cs := [.int .i64 X0.rm, .int .i64 X0.lv, .slice fW00 fW01 fW02]) (q := 0) (HR.out.right.right.right.right.right.left) (List.mem_singleton.2 rfl) rfl).1
  have dbW01 : (w5.alloc (.cells #[.int .i64 X0.rm, .int .i64 X0.lv, .slice fG00 fG01 fG02] 29)).cell? ⟨w3.heap.size, 1, none⟩ = some (.int .i64 X0.lv) := (Rows.bcell (T := 29) (d := 3) (b := w3.heap.size) (cs := [.int .i64 X0.rm, .int .i64 X0.lv, .slice fW00 fW01 fW02]) (q := 1) (HR.out.right.right.right.right.right.left) (List.mem_singleton.2 rfl) rfl).1
  have dbW02 : (w5.alloc (.cells #[.int .i64 X0.rm, .int .i64 X0.lv, .slice fG00 fG01 fG02] 29)).cell? ⟨w3.heap.size, 2, none⟩ = some (.slice fW00 fW01 fW02) := (Rows.bcell (T := 29) (d := 3) (b := w3.heap.size) (cs := [.int .i64 X0.rm, .int .i64 X0.lv, .slice fW00 fW01 fW02]) (q := 2) (HR.out.right.right.right.right.right.left) (List.mem_singleton.2 rfl) rfl).1
  have tbW0 : w3.heap.size < (w5.alloc (.cells #[.int .i64 X0.rm, .int .i64 X0.lv, .slice fG00 fG01 fG02] 29)).heap.size := (Rows.bcell (T := 29) (d := 3) (b := w3.heap.size) (cs := [.int .i64 X0.rm, .int .i64 X0.lv, .slice fW00 fW01 fW02]) (q := 0) (HR.out.right.right.right.right.right.left) (List.mem_singleton.2 rfl) rfl).2
  have da00 : (w5.alloc (.cells #[.int .i64 X0.rm, .int .i64 X0.lv, .slice fG00 fG01 fG02] 29)).cell? ⟨w.heap.size, 0, none⟩ = some (.int .i64 d0.rm) := (Rows.bcell (T := 24) (d := 3) (b := w.heap.size) (cs := [.int .i64 d0.rm, .int .i64 d0.lv, .slice A0 n0 c0]) (q := 0) (HR.out.right.right.right.right.right.right.right.right) (List.mem_singleton.2 rfl) rfl).1
  have da01 : (w5.alloc (.cells #[.int .i64 X0.rm, .int .i64 X0.lv, .slice fG00 fG01 fG02] 29)).cell? ⟨w.heap.size, 1, none⟩ = some (.int .i64 d0.lv) := (Rows.bcell (T := 24) (d := 3) (b := w.heap.size) (cs := [.int .i64 d0.rm, .int .i64 d0.lv, .slice A0 n0 c0]) (q := 1) (HR.out.right.right.right.right.right.right.right.right) (List.mem_singleton.2 rfl) rfl).1
  have da02 : (w5.alloc (.cells #[.int .i64 X0.rm, .int .i64 X0.lv, .slice fG00 fG01 fG02] 29)).cell? ⟨w.heap.size, 2, none⟩ = some (.slice A0 n0 c0) := (Rows.bcell (T := 24) (d := 3) (b := w.heap.size) (cs := [.int .i64 d0.rm, .int .i64 d0.lv, .slice A0 n0 c0]) (q := 2) (HR.out.right.right.right.right.right.right.right.right) (List.mem_singleton.2 rfl) rfl).1
  have ta0 : w.heap.size < (w5.alloc (.cells #[.int .i64 X0.rm, .int .i64 X0.lv, .slice fG00 fG01 fG02] 29)).heap.size := (Rows.bcell (T := 24) (d := 3) (b := w.heap.size) (cs := [.int .i64 d0.rm, .int .i64 d0.lv, .slice A0 n0 c0]) (q := 0) (HR.out.right.right.right.right.right.right.right.right) (List.mem_singleton.2 rfl) rfl).2
  go_wp2_with fail
  refine (eqBufferX_c SG0.out (HR.out.right.left) SW0.out (HR.out.right.right.right.right.right.right.left)).mono ?_
  rintro e w6 ⟨rfl, hb⟩
  replace HR := hid (HR.out.below hb)
  replace HB := hid (HB.out.trans (hb.mono HB.out.size))
  clear hb
  clear dbG00 dbG01 dbG02 tbG0 dbx00 dbx01 dbx02 tbx0 dbW00 dbW01 dbW02 tbW0 da00 da01 da02 ta0
  have dbG00 : w6.cell? ⟨w5.heap.size, 0, none⟩ = some (.int .i64 X0.rm) := (Rows.bcell (T := 29) (d := 3) (b := w5.heap.size) (cs := [.int .i64 X0.rm, .int .i64 X0.lv, .slice fG00 fG01 fG02]) (q := 0) (HR.out.left) (List.mem_singleton.2 rfl) rfl).1
  have dbG01 : w6.cell? ⟨w5.heap.size, 1, none⟩ = some (.int .i64 X0.lv) := (Rows.bcell (T := 29) (d := 3) (b := w5.heap.size) (cs := [.int .i64 X0.rm, .int .i64 X0.lv, .slice fG00 fG01 fG02]) (q := 1) (HR.out.left) (List.mem_singleton.2 rfl) rfl).1
  have dbG02 : w6.cell? ⟨w5.heap.size, 2, none⟩ = some (.slice fG00 fG01 fG02) := (Rows.bcell (T := 29) (d := 3) (b := w5.heap.size) (cs := [.int .i64 X0.rm, .int .i64 X0.lv, .slice fG00 fG01 fG02]) (q := 2) (HR.out.left) (List.mem_singleton.2 rfl) rfl).1
  have tbG0 : w5.heap.size < w6.heap.size := (Rows.bcell (T := 29) (d := 3) (b := w5.heap.size) (cs := [.int .i64 X0.rm, .int .i64 X0.lv, .slice fG00 fG01 fG02]) (q := 0) (HR.out.left) (List.mem_singleton.2 rfl) rfl).2
  have dbx00 : w6.cell? ⟨w4.heap.size, 0, none⟩ = some (.int .i64 d0.rm) := (Rows.bcell (T := 29) (d := 3) (b := w4.heap.size) (cs := [.int .i64 d0.rm, .int .i64 d0.lv, .slice fx00 fx01 fx02]) (q := 0) (HR.out.right.right.right.left) (List.mem_singleton.2 rfl) rfl).1
  have dbx01 : w6.cell? ⟨w4.heap.size, 1, none⟩ = some (.int .i64 d0.lv) := (Rows.bcell (T := 29) (d := 3) (b := w4.heap.size) (cs := [.int .i64 d0.rm, .int .i64 d0.lv, .slice fx00 fx01 fx02]) (q := 1) (HR.out.right.right.right.left) (List.mem_singleton.2 rfl) rfl).1
  have dbx02 : w6.cell? ⟨w4.heap.size, 2, none⟩ = some (.slice fx00 fx01 fx02) := (Rows.bcell (T := 29) (d := 3) (b := w4.heap.size) (cs := [.int .i64 d0.rm, .int .i64 d0.lv, .slice fx00 fx01 fx02]) (q := 2) (HR.out.right.right.right.left) (List.mem_singleton.2 rfl) rfl).1
  have tbx0 : w4.heap.size < w6.heap.size := (Rows.bcell (T := 29) (d := 3) (b := w4.heap.size) (cs := [.int .i64 d0.rm, .int .i64 d0.lv, .slice fx00 fx01 fx02]) (q := 0) (HR.out.right.right.right.left) (List.mem_singleton.2 rfl) rfl).2
  have dbW00 : w6.cell? ⟨w3.heap.size, 0, none⟩ = some (.int .i64 X0.rm) := (Rows.bcell (T := 29) (d := 3) (b := w3.heap.size) (cs := [.int .i64 X0.rm, .int .i64 X0.lv, .slice fW00 fW01 fW02]) (q := 0) (HR.out.right.right.right.right.right.left) (List.mem_singleton.2 rfl) rfl).1
  have dbW01 : w6.cell? ⟨w3.heap.size, 1, none⟩ = some (.int .i64 X0.lv) := (Rows.bcell (T := 29) (d := 3) (b := w3.heap.size) (cs := [.int .i64 X0.rm, .int .i64 X0.lv, .slice fW00 fW01 fW02]) (q := 1) (HR.out.right.right.right.right.right.left) (List.mem_singleton.2 rfl) rfl).1
  have dbW02 : w6.cell? ⟨w3.heap.size, 2, none⟩ = some (.slice fW00 fW01 fW02) := (Rows.bcell (T := 29) (d := 3) (b := w3.heap.size) (cs := [.int .i64 X0.rm, .int .i64 X0.lv, .slice fW00 fW01 fW02]) (q := 2) (HR.out.right.right.right.right.right.left) (List.mem_singleton.2 rfl) rfl).1
  have tbW0 : w3.heap.size < w6.heap.size := (Rows.bcell (T := 29) (d := 3) (b := w3.heap.size) (cs := [.int .i64 X0.rm, .int .i64 X0.lv, .slice fW00 fW01 fW02]) (q := 0) (HR.out.right.right.right.right.right.left) (List.mem_singleton.2 rfl) rfl).2
  have da00 : w6.cell? ⟨w.heap.size, 0, none⟩ = some (.int .i64 d0.rm) := (Rows.bcell (T := 24) (d := 3) (b := w.heap.size) (cs := [.int .i64 d0.rm, .int .i64 d0.lv, .slice A0 n0 c0]) (q := 0) (HR.out.right.right.right.right.right.right.right.right) (List.mem_singleton.2 rfl) rfl).1
  have da01 : w6.cell? ⟨w.heap.size, 1, none⟩ = some (.int .i64 d0.lv) := (Rows.bcell (T := 24) (d := 3) (b := w.heap.size) (cs := [.int .i64 d0.rm, .int .i64 d0.lv, .slice A0 n0 c0]) (q := 1) (HR.out.right.right.right.right.right.right.right.right) (List.mem_singleton.2 rfl) rfl).1
  have da02 : w6.cell? ⟨w.heap.size, 2, none⟩ = some (.slice A0 n0 c0) := (Rows.bcell (T := 24) (d := 3) (b := w.heap.size) (cs := [.int .i64 d0.rm, .int .i64 d0.lv, .slice A0 n0 c0]) (q := 2) (HR.out.right.right.right.right.right.right.right.right) (List.mem_singleton.2 rfl) rfl).1
  have ta0 : w.heap.size < w6.heap.size := (Rows.bcell (T := 24) (d := 3) (b := w.heap.size) (cs := [.int .i64 d0.rm, .int .i64 d0.lv, .slice A0 n0 c0]) (q := 0) (HR.out.right.right.right.right.right.right.right.right) (List.mem_singleton.2 rfl) rfl).2
  go_wp2_with fail
  refine (eqRecsX_c SG1.out (HR.out.right.right.left) SW1.out (HR.out.right.right.right.right.right.right.right.left)).mono ?_
  rintro e w7 ⟨rfl, hb⟩
  replace HR := hid (HR.out.below hb)
  replace HB := hid (HB.out.trans (hb.mono HB.out.size))
  clear hb
  clear dbG00 dbG01 dbG02 tbG0 dbx00 dbx01 dbx02 tbx0 dbW00 dbW01 dbW02 tbW0 da00 da01 da02 ta0
  have dbG00 : w7.cell? ⟨w5.heap.size, 0, none⟩ = some (.int .i64 X0.rm) := (Rows.bcell (T := 29) (d := 3) (b := w5.heap.size) (cs := [.int .i64 X0.rm, .int .i64 X0.lv, .slice fG00 fG01 fG02]) (q := 0) (HR.out.left) (List.mem_singleton.2 rfl) rfl).1
  have dbG01 : w7.cell? ⟨w5.heap.size, 1, none⟩ = some (.int .i64 X0.lv) := (Rows.bcell (T := 29) (d := 3) (b := w5.heap.size) (cs := [.int .i64 X0.rm, .int .i64 X0.lv, .slice fG00 fG01 fG02]) (q := 1) (HR.out.left) (List.mem_singleton.2 rfl) rfl).1
  have dbG02 : w7.cell? ⟨w5.heap.size, 2, none⟩ = some (.slice fG00 fG01 fG02) := (Rows.bcell (T := 29) (d := 3) (b := w5.heap.size) (cs := [.int .i64 X0.rm, .int .i64 X0.lv, .slice fG00 fG01 fG02]) (q := 2) (HR.out.left) (List.mem_singleton.2 rfl) rfl).1
  have tbG0 : w5.heap.size < w7.heap.size := (Rows.bcell (T := 29) (d := 3) (b := w5.heap.size) (cs := [.int .i64 X0.rm, .int .i64 X0.lv, .slice fG00 fG01 fG02]) (q := 0) (HR.out.left) (List.mem_singleton.2 rfl) rfl).2
  have dbx00 : w7.cell? ⟨w4.heap.size, 0, none⟩ = some (.int .i64 d0.rm) := (Rows.bcell (T := 29) (d := 3) (b := w4.heap.size) (cs := [.int .i64 d0.rm, .int .i64 d0.lv, .slice fx00 fx01 fx02]) (q := 0) (HR.out.right.right.right.left) (List.mem_singleton.2 rfl) rfl).1
  have dbx01 : w7.cell? ⟨w4.heap.size, 1, none⟩ = some (.int .i64 d0.lv) := (Rows.bcell (T := 29) (d := 3) (b := w4.heap.size) (cs := [.int .i64 d0.rm, .int .i64 d0.lv, .slice fx00 fx01 fx02]) (q := 1) (HR.out.right.right.right.left) (List.mem_singleton.2 rfl) rfl).1
  have dbx02 : w7.cell? ⟨w4.heap.size, 2, none⟩ = some (.slice fx00 fx01 fx02) := (Rows.bcell (T := 29) (d := 3) (b := w4.heap.size) (cs := [.int .i64 d0.rm, .int .i64 d0.lv, .slice fx00 fx01 fx02]) (q := 2) (HR.out.right.right.right.left) (List.mem_singleton.2 rfl) rfl).1
  have tbx0 : w4.heap.size < w7.heap.size := (Rows.bcell (T := 29) (d := 3) (b := w4.heap.size) (cs := [.int .i64 d0.rm, .int .i64 d0.lv, .slice fx00 fx01 fx02]) (q := 0) (HR.out.right.right.right.left) (List.mem_singleton.2 rfl) rfl).2
  have dbW00 : w7.cell? ⟨w3.heap.size, 0, none⟩ = some (.int .i64 X0.rm) := (Rows.bcell (T := 29) (d := 3) (b := w3.heap.size) (cs := [.int .i64 X0.rm, .int .i64 X0.lv, .slice fW00 fW01 fW02]) (q := 0) (HR.out.right.right.right.right.right.left) (List.mem_singleton.2 rfl) rfl).1
  have dbW01 : w7.cell? ⟨w3.heap.size, 1, none⟩ = some (.int .i64 X0.lv) := (Rows.bcell (T := 29) (d := 3) (b := w3.heap.size) (cs := [.int .i64 X0.rm, .int .i64 X0.lv, .slice fW00 fW01 fW02]) (q := 1) (HR.out.right.right.right.right.right.left) (List.mem_singleton.2 rfl) rfl).1
  have dbW02 : w7.cell? ⟨w3.heap.size, 2, none⟩ = some (.slice fW00 fW01 fW02) := (Rows.bcell (T := 29) (d := 3) (b := w3.heap.size) (cs := [.int .i64 X0.rm, .int .i64 X0.lv, .slice fW00 fW01 fW02]) (q := 2) (HR.out.right.right.right.right.right.left) (List.mem_singleton.2 rfl) rfl).1
  have tbW0 : w3.heap.size < w7.heap.size := (Rows.bcell (T := 29) (d := 3) (b := w3.heap.size) (cs := [.int .i64 X0.rm, .int .i64 X0.lv, .slice fW00 fW01 fW02]) (q := 0) (HR.out.right.right.right.right.right.left) (List.mem_singleton.2 rfl) rfl).2
  have da00 : w7.cell? ⟨w.heap.size, 0, none⟩ = some (.int .i64 d0.rm) := (Rows.bcell (T := 24) (d := 3) (b := w.heap.size) (cs := [.int .i64 d0.rm, .int .i64 d0.lv, .slice A0 n0 c0]) (q := 0) (HR.out.right.right.right.right.right.right.right.right) (List.mem_singleton.2 rfl) rfl).1
  have da01 : w7.cell? ⟨w.heap.size, 1, none⟩ = some (.int .i64 d0.lv) := (Rows.bcell (T := 24) (d := 3) (b := w.heap.size) (cs := [.int .i64 d0.rm, .int .i64 d0.lv, .slice A0 n0 c0]) (q := 1) (HR.out.right.right.right.right.right.right.right.right) (List.mem_singleton.2 rfl) rfl).1
  have da02 : w7.cell? ⟨w.heap.size, 2, none⟩ = some (.slice A0 n0 c0) := (Rows.bcell (T := 24) (d := 3) (b := w.heap.size) (cs := [.int .i64 d0.rm, .int .i64 d0.lv, .slice A0 n0 c0]) (q := 2) (HR.out.right.right.right.right.right.right.right.right) (List.mem_singleton.2 rfl) rfl).1
  have ta0 : w.heap.size < w7.heap.size := (Rows.bcell (T := 24) (d := 3) (b := w.heap.size) (cs := [.int .i64 d0.rm, .int .i64 d0.lv, .slice A0 n0 c0]) (q := 0) (HR.out.right.right.right.right.right.right.right.right) (List.mem_singleton.2 rfl) rfl).2
  go_wp2_with fail
  refine wp_region_held_drew (S := (fun w' : World => w'.cell? ⟨w4.heap.size, 0, none⟩ = some (.int .i64 d0.rm) ∧ w'.cell? ⟨w4.heap.size, 1, none⟩ = some (.int .i64 d0.lv) ∧ w'.cell? ⟨w4.heap.size, 2, none⟩ = some (.slice fx00 fx01 fx02) ∧ w'.cell? ⟨w.heap.size, 0, none⟩ = some (.int .i64 d0.rm) ∧ w'.cell? ⟨w.heap.size, 1, none⟩ = some (.int .i64 d0.lv) ∧ w'.cell? ⟨w.heap.size, 2, none⟩ = some (.slice A0 n0 c0))) (by kernel_rfl) ⟨dbx00, dbx01, dbx02, da00, da01, da02⟩ (fun hS => ?_)
  refine wpAnyH_take (i := 0) (oi := ?oi101) (v := ?v101) ?hi101 (by kernel_rfl) ?hf101 ?hr101 ?hQ101 (Or.inl ⟨?hw101, ?hy101⟩) (by assumption) ?rest101
  case hi101 => simp only [List.getElem?_toArray, List.getElem?_cons_succ, List.getElem?_cons_zero]; rfl
  case hf101 => kernel_rfl
  case hr101 => kernel_rfl
  case hw101 => rfl
  case hy101 => (intro w hSw; (try dsimp only at hSw); go_simp; all_goals (first | done | with_reducible rfl))
  case hQ101 => exact fun _ _ _ h => h
  simp only [Act.put, List.setIfInBounds_toArray, List.set_cons_zero, List.set_cons_succ]
  refine wpAnyH_take (i := 1) (oi := ?oi102) (v := ?v102) ?hi102 (by kernel_rfl) ?hf102 ?hr102 ?hQ102 (Or.inl ⟨?hw102, ?hy102⟩) (by assumption) ?rest102
  case hi102 => simp only [List.getElem?_toArray, List.getElem?_cons_succ, List.getElem?_cons_zero]; rfl
  case hf102 => kernel_rfl
  case hr102 => kernel_rfl
  case hw102 => rfl
  case hy102 => (intro w hSw; (try dsimp only at hSw); go_simp; all_goals (first | done | with_reducible rfl))
  case hQ102 => exact fun _ _ _ h => h
  simp only [Act.put, List.setIfInBounds_toArray, List.set_cons_zero, List.set_cons_succ]
  replace HR := hid (HR.out.below ((Below.refl w7.heap.size w7).drew))
  replace HB := hid HB.out.drew
  clear dbG00 dbG01 dbG02 tbG0 dbx00 dbx01 dbx02 tbx0 dbW00 dbW01 dbW02 tbW0 da00 da01 da02 ta0
  have dbG00 : w7.drew.cell? ⟨w5.heap.size, 0, none⟩ = some (.int .i64 X0.rm) := (Rows.bcell (T := 29) (d := 3) (b := w5.heap.size) (cs := [.int .i64 X0.rm, .int .i64 X0.lv, .slice fG00 fG01 fG02]) (q := 0) (HR.out.left) (List.mem_singleton.2 rfl) rfl).1
  have dbG01 : w7.drew.cell? ⟨w5.heap.size, 1, none⟩ = some (.int .i64 X0.lv) := (Rows.bcell (T := 29) (d := 3) (b := w5.heap.size) (cs := [.int .i64 X0.rm, .int .i64 X0.lv, .slice fG00 fG01 fG02]) (q := 1) (HR.out.left) (List.mem_singleton.2 rfl) rfl).1
  have dbG02 : w7.drew.cell? ⟨w5.heap.size, 2, none⟩ = some (.slice fG00 fG01 fG02) := (Rows.bcell (T := 29) (d := 3) (b := w5.heap.size) (cs := [.int .i64 X0.rm, .int .i64 X0.lv, .slice fG00 fG01 fG02]) (q := 2) (HR.out.left) (List.mem_singleton.2 rfl) rfl).1
  have tbG0 : w5.heap.size < w7.drew.heap.size := (Rows.bcell (T := 29) (d := 3) (b := w5.heap.size) (cs := [.int .i64 X0.rm, .int .i64 X0.lv, .slice fG00 fG01 fG02]) (q := 0) (HR.out.left) (List.mem_singleton.2 rfl) rfl).2
  have dbx00 : w7.drew.cell? ⟨w4.heap.size, 0, none⟩ = some (.int .i64 d0.rm) := (Rows.bcell (T := 29) (d := 3) (b := w4.heap.size) (cs := [.int .i64 d0.rm, .int .i64 d0.lv, .slice fx00 fx01 fx02]) (q := 0) (HR.out.right.right.right.left) (List.mem_singleton.2 rfl) rfl).1
  have dbx01 : w7.drew.cell? ⟨w4.heap.size, 1, none⟩ = some (.int .i64 d0.lv) := (Rows.bcell (T := 29) (d := 3) (b := w4.heap.size) (cs := [.int .i64 d0.rm, .int .i64 d0.lv, .slice fx00 fx01 fx02]) (q := 1) (HR.out.right.right.right.left) (List.mem_singleton.2 rfl) rfl).1
  have dbx02 : w7.drew.cell? ⟨w4.heap.size, 2, none⟩ = some (.slice fx00 fx01 fx02) := (Rows.bcell (T := 29) (d := 3) (b := w4.heap.size) (cs := [.int .i64 d0.rm, .int .i64 d0.lv, .slice fx00 fx01 fx02]) (q := 2) (HR.out.right.right.right.left) (List.mem_singleton.2 rfl) rfl).1
  have tbx0 : w4.heap.size < w7.drew.heap.size := (Rows.bcell (T := 29) (d := 3) (b := w4.heap.size) (cs := [.int .i64 d0.rm, .int .i64 d0.lv, .slice fx00 fx01 fx02]) (q := 0) (HR.out.right.right.right.left) (List.mem_singleton.2 rfl) rfl).2
  have dbW00 : w7.drew.cell? ⟨w3.heap.size, 0, none⟩ = some (.int .i64 X0.rm) := (Rows.bcell (T := 29) (d := 3) (b := w3.heap.size) (cs := [.int .i64 X0.rm, .int .i64 X0.lv, .slice fW00 fW01 fW02]) (q := 0) (HR.out.right.right.right.right.right.left) (List.mem_singleton.2 rfl) rfl).1
  have dbW01 : w7.drew.cell? ⟨w3.heap.size, 1, none⟩ = some (.int .i64 X0.lv) := (Rows.bcell (T := 29) (d := 3) (b := w3.heap.size) (cs := [.int .i64 X0.rm, .int .i64 X0.lv, .slice fW00 fW01 fW02]) (q := 1) (HR.out.right.right.right.right.right.left) (List.mem_singleton.2 rfl) rfl).1
  have dbW02 : w7.drew.cell? ⟨w3.heap.size, 2, none⟩ = some (.slice fW00 fW01 fW02) := (Rows.bcell (T := 29) (d := 3) (b := w3.heap.size) (cs := [.int .i64 X0.rm, .int .i64 X0.lv, .slice fW00 fW01 fW02]) (q := 2) (HR.out.right.right.right.right.right.left) (List.mem_singleton.2 rfl) rfl).1
  have tbW0 : w3.heap.size < w7.drew.heap.size := (Rows.bcell (T := 29) (d := 3) (b := w3.heap.size) (cs := [.int .i64 X0.rm, .int .i64 X0.lv, .slice fW00 fW01 fW02]) (q := 0) (HR.out.right.right.right.right.right.left) (List.mem_singleton.2 rfl) rfl).2
  have da00 : w7.drew.cell? ⟨w.heap.size, 0, none⟩ = some (.int .i64 d0.rm) := (Rows.bcell (T := 24) (d := 3) (b := w.heap.size) (cs := [.int .i64 d0.rm, .int .i64 d0.lv, .slice A0 n0 c0]) (q := 0) (HR.out.right.right.right.right.right.right.right.right) (List.mem_singleton.2 rfl) rfl).1
  have da01 : w7.drew.cell? ⟨w.heap.size, 1, none⟩ = some (.int .i64 d0.lv) := (Rows.bcell (T := 24) (d := 3) (b := w.heap.size) (cs := [.int .i64 d0.rm, .int .i64 d0.lv, .slice A0 n0 c0]) (q := 1) (HR.out.right.right.right.right.right.right.right.right) (List.mem_singleton.2 rfl) rfl).1
  have da02 : w7.drew.cell? ⟨w.heap.size, 2, none⟩ = some (.slice A0 n0 c0) := (Rows.bcell (T := 24) (d := 3) (b := w.heap.size) (cs := [.int .i64 d0.rm, .int .i64 d0.lv, .slice A0 n0 c0]) (q := 2) (HR.out.right.right.right.right.right.right.right.right) (List.mem_singleton.2 rfl) rfl).1
  have ta0 : w.heap.size < w7.drew.heap.size := (Rows.bcell (T := 24) (d := 3) (b := w.heap.size) (cs := [.int .i64 d0.rm, .int .i64 d0.lv, .slice A0 n0 c0]) (q := 0) (HR.out.right.right.right.right.right.right.right.right) (List.mem_singleton.2 rfl) rfl).2
  refine wpAnyH_ready (rs := [2]) (by kernel_rfl) (by simp) ?_
  refine AllReadyH.cons (o := ?oi103) ?hi103 (fun K hK => ?step103) AllReadyH.nil
  case hi103 => simp only [List.getElem?_toArray, List.getElem?_cons_succ, List.getElem?_cons_zero]; rfl
  rw [if_pos (by rfl)]
  go_simp
  go_at_call 13
  refine (toBufferY_c A0 n0 c0 d0 w.heap.size _ (T0.out.below HB.out (Nat.le_refl _)) HB.out.size F0.out).mono ?_
  rintro e w8 ⟨v, rs, rfl, hs, hr, hb⟩
  obtain ⟨fy00, fy01, fy02, rfl⟩ := hs.form hr
  have Sy0 := hid hs
  clear hs
  replace HR := hid (HR.out.newer hb hr HB.out.size)
  replace HB := hid (HB.out.trans (hb.mono HB.out.size))
  clear hb hr
  clear dbG00 dbG01 dbG02 tbG0 dbx00 dbx01 dbx02 tbx0 dbW00 dbW01 dbW02 tbW0 da00 da01 da02 ta0
  have dbG00 : w8.cell? ⟨w5.heap.size, 0, none⟩ = some (.int .i64 X0.rm) := (Rows.bcell (T := 29) (d := 3) (b := w5.heap.size) (cs := [.int .i64 X0.rm, .int .i64 X0.lv, .slice fG00 fG01 fG02]) (q := 0) (HR.out.right.left) (List.mem_singleton.2 rfl) rfl).1
  have dbG01 : w8.cell? ⟨w5.heap.size, 1, none⟩ = some (.int .i64 X0.lv) := (Rows.bcell (T := 29) (d := 3) (b := w5.heap.size) (cs := [.int .i64 X0.rm, .int .i64 X0.lv, .slice fG00 fG01 fG02]) (q := 1) (HR.out.right.left) (List.mem_singleton.2 rfl) rfl).1
  have dbG02 : w8.cell? ⟨w5.heap.size, 2, none⟩ = some (.slice fG00 fG01 fG02) := (Rows.bcell (T := 29) (d := 3) (b := w5.heap.size) (cs := [.int .i64 X0.rm, .int .i64 X0.lv, .slice fG00 fG01 fG02]) (q := 2) (HR.out.right.left) (List.mem_singleton.2 rfl) rfl).1
  have tbG0 : w5.heap.size < w8.heap.size := (Rows.bcell (T := 29) (d := 3) (b := w5.heap.size) (cs := [.int .i64 X0.rm, .int .i64 X0.lv, .slice fG00 fG01 fG02]) (q := 0) (HR.out.right.left) (List.mem_singleton.2 rfl) rfl).2
  have dbx00 : w8.cell? ⟨w4.heap.size, 0, none⟩ = some (.int .i64 d0.rm) := (Rows.bcell (T := 29) (d := 3) (b := w4.heap.size) (cs := [.int .i64 d0.rm, .int .i64 d0.lv, .slice fx00 fx01 fx02]) (q := 0) (HR.out.right.right.right.right.left) (List.mem_singleton.2 rfl) rfl).1
  have dbx01 : w8.cell? ⟨w4.heap.size, 1, none⟩ = some (.int .i64 d0.lv) := (Rows.bcell (T := 29) (d := 3) (b := w4.heap.size) (cs := [.int .i64 d0.rm, .int .i64 d0.lv, .slice fx00 fx01 fx02]) (q := 1) (HR.out.right.right.right.right.left) (List.mem_singleton.2 rfl) rfl).1
  have dbx02 : w8.cell? ⟨w4.heap.size, 2, none⟩ = some (.slice fx00 fx01 fx02) := (Rows.bcell (T := 29) (d := 3) (b := w4.heap.size) (cs := [.int .i64 d0.rm, .int .i64 d0.lv, .slice fx00 fx01 fx02]) (q := 2) (HR.out.right.right.right.right.left) (List.mem_singleton.2 rfl) rfl).1
  have tbx0 : w4.heap.size < w8.heap.size := (Rows.bcell (T := 29) (d := 3) (b := w4.heap.size) (cs := [.int .i64 d0.rm, .int .i64 d0.lv, .slice fx00 fx01 fx02]) (q := 0) (HR.out.right.right.right.right.left) (List.mem_singleton.2 rfl) rfl).2
  have dbW00 : w8.cell? ⟨w3.heap.size, 0, none⟩ = some (.int .i64 X0.rm) := (Rows.bcell (T := 29) (d := 3) (b := w3.heap.size) (cs := [.int .i64 X0.rm, .int .i64 X0.lv, .slice fW00 fW01 fW02]) (q := 0) (HR.out.right.right.right.right.right.right.left) (List.mem_singleton.2 rfl) rfl).1
  have dbW01 : w8.cell? ⟨w3.heap.size, 1, none⟩ = some (.int .i64 X0.lv) := (Rows.bcell (T := 29) (d := 3) (b := w3.heap.size) (cs := [.int .i64 X0.rm, .int .i64 X0.lv, .slice fW00 fW01 fW02]) (q := 1) (HR.out.right.right.right.right.right.right.left) (List.mem_singleton.2 rfl) rfl).1
  have dbW02 : w8.cell? ⟨w3.heap.size, 2, none⟩ = some (.slice fW00 fW01 fW02) := (Rows.bcell (T := 29) (d := 3) (b := w3.heap.size) (cs := [.int .i64 X0.rm, .int .i64 X0.lv, .slice fW00 fW01 fW02]) (q := 2) (HR.out.right.right.right.right.right.right.left) (List.mem_singleton.2 rfl) rfl).1
  have tbW0 : w3.heap.size < w8.heap.size := (Rows.bcell (T := 29) (d := 3) (b := w3.heap.size) (cs := [.int .i64 X0.rm, .int .i64 X0.lv, .slice fW00 fW01 fW02]) (q := 0) (HR.out.right.right.right.right.right.right.left) (List.mem_singleton.2 rfl) rfl).2
  have da00 : w8.cell? ⟨w.heap.size, 0, none⟩ = some (.int .i64 d0.rm) := (Rows.bcell (T := 24) (d := 3) (b := w.heap.size) (cs := [.int .i64 d0.rm, .int .i64 d0.lv, .slice A0 n0 c0]) (q := 0) (HR.out.right.right.right.right.right.right.right.right.right) (List.mem_singleton.2 rfl) rfl).1
  have da01 : w8.cell? ⟨w.heap.size, 1, none⟩ = some (.int .i64 d0.lv) := (Rows.bcell (T := 24) (d := 3) (b := w.heap.size) (cs := [.int .i64 d0.rm, .int .i64 d0.lv, .slice A0 n0 c0]) (q := 1) (HR.out.right.right.right.right.right.right.right.right.right) (List.mem_singleton.2 rfl) rfl).1
  have da02 : w8.cell? ⟨w.heap.size, 2, none⟩ = some (.slice A0 n0 c0) := (Rows.bcell (T := 24) (d := 3) (b := w.heap.size) (cs := [.int .i64 d0.rm, .int .i64 d0.lv, .slice A0 n0 c0]) (q := 2) (HR.out.right.right.right.right.right.right.right.right.right) (List.mem_singleton.2 rfl) rfl).1
  have ta0 : w.heap.size < w8.heap.size := (Rows.bcell (T := 24) (d := 3) (b := w.heap.size) (cs := [.int .i64 d0.rm, .int .i64 d0.lv, .slice A0 n0 c0]) (q := 0) (HR.out.right.right.right.right.right.right.right.right.right) (List.mem_singleton.2 rfl) rfl).2
  refine hK.out _ _ ⟨dbx00, dbx01, dbx02, da00, da01, da02⟩ (fun hS9 => ?_)
  refine wpAnyH_ready (rs := [3]) (by kernel_rfl) (by simp) ?_
  refine AllReadyH.cons (o := ?oi104) ?hi104 (fun K hK => ?step104) AllReadyH.nil
  case hi104 => simp only [List.getElem?_toArray, List.getElem?_cons_succ, List.getElem?_cons_zero]; rfl
  rw [if_pos (by rfl)]
  go_simp
  go_at_call 15
  refine (eqBufferX_c Sx0.out (HR.out.right.right.right.right.right.left) Sy0.out (HR.out.left)).mono ?_
  rintro e w9 ⟨rfl, hb⟩
  replace HR := hid (HR.out.below hb)
  replace HB := hid (HB.out.trans (hb.mono HB.out.size))
  clear hb
  clear dbG00 dbG01 dbG02 tbG0 dbx00 dbx01 dbx02 tbx0 dbW00 dbW01 dbW02 tbW0 da00 da01 da02 ta0
  have dbG00 : w9.cell? ⟨w5.heap.size, 0, none⟩ = some (.int .i64 X0.rm) := (Rows.bcell (T := 29) (d := 3) (b := w5.heap.size) (cs := [.int .i64 X0.rm, .int .i64 X0.lv, .slice fG00 fG01 fG02]) (q := 0) (HR.out.right.left) (List.mem_singleton.2 rfl) rfl).1
  have dbG01 : w9.cell? ⟨w5.heap.size, 1, none⟩ = some (.int .i64 X0.lv) := (Rows.bcell (T := 29) (d := 3) (b := w5.heap.size) (cs := [.int .i64 X0.rm, .int .i64 X0.lv, .slice fG00 fG01 fG02]) (q := 1) (HR.out.right.left) (List.mem_singleton.2 rfl) rfl).1
  have dbG02 : w9.cell? ⟨w5.heap.size, 2, none⟩ = some (.slice fG00 fG01 fG02) := (Rows.bcell (T := 29) (d := 3) (b := w5.heap.size) (cs := [.int .i64 X0.rm, .int .i64 X0.lv, .slice fG00 fG01 fG02]) (q := 2) (HR.out.right.left) (List.mem_singleton.2 rfl) rfl).1
  have tbG0 : w5.heap.size < w9.heap.size := (Rows.bcell (T := 29) (d := 3) (b := w5.heap.size) (cs := [.int .i64 X0.rm, .int .i64 X0.lv, .slice fG00 fG01 fG02]) (q := 0) (HR.out.right.left) (List.mem_singleton.2 rfl) rfl).2
  have dbx00 : w9.cell? ⟨w4.heap.size, 0, none⟩ = some (.int .i64 d0.rm) := (Rows.bcell (T := 29) (d := 3) (b := w4.heap.size) (cs := [.int .i64 d0.rm, .int .i64 d0.lv, .slice fx00 fx01 fx02]) (q := 0) (HR.out.right.right.right.right.left) (List.mem_singleton.2 rfl) rfl).1
  have dbx01 : w9.cell? ⟨w4.heap.size, 1, none⟩ = some (.int .i64 d0.lv) := (Rows.bcell (T := 29) (d := 3) (b := w4.heap.size) (cs := [.int .i64 d0.rm, .int .i64 d0.lv, .slice fx00 fx01 fx02]) (q := 1) (HR.out.right.right.right.right.left) (List.mem_singleton.2 rfl) rfl).1
  have dbx02 : w9.cell? ⟨w4.heap.size, 2, none⟩ = some (.slice fx00 fx01 fx02) := (Rows.bcell (T := 29) (d := 3) (b := w4.heap.size) (cs := [.int .i64 d0.rm, .int .i64 d0.lv, .slice fx00 fx01 fx02]) (q := 2) (HR.out.right.right.right.right.left) (List.mem_singleton.2 rfl) rfl).1
  have tbx0 : w4.heap.size < w9.heap.size := (Rows.bcell (T := 29) (d := 3) (b := w4.heap.size) (cs := [.int .i64 d0.rm, .int .i64 d0.lv, .slice fx00 fx01 fx02]) (q := 0) (HR.out.right.right.right.right.left) (List.mem_singleton.2 rfl) rfl).2
  have dbW00 : w9.cell? ⟨w3.heap.size, 0, none⟩ = some (.int .i64 X0.rm) := (Rows.bcell (T := 29) (d := 3) (b := w3.heap.size) (cs := [.int .i64 X0.rm, .int .i64 X0.lv, .slice fW00 fW01 fW02]) (q := 0) (HR.out.right.right.right.right.right.right.left) (List.mem_singleton.2 rfl) rfl).1
  have dbW01 : w9.cell? ⟨w3.heap.size, 1, none⟩ = some (.int .i64 X0.lv) := (Rows.bcell (T := 29) (d := 3) (b := w3.heap.size) (cs := [.int .i64 X0.rm, .int .i64 X0.lv, .slice fW00 fW01 fW02]) (q := 1) (HR.out.right.right.right.right.right.right.left) (List.mem_singleton.2 rfl) rfl).1
  have dbW02 : w9.cell? ⟨w3.heap.size, 2, none⟩ = some (.slice fW00 fW01 fW02) := (Rows.bcell (T := 29) (d := 3) (b := w3.heap.size) (cs := [.int .i64 X0.rm, .int .i64 X0.lv, .slice fW00 fW01 fW02]) (q := 2) (HR.out.right.right.right.right.right.right.left) (List.mem_singleton.2 rfl) rfl).1
  have tbW0 : w3.heap.size < w9.heap.size := (Rows.bcell (T := 29) (d := 3) (b := w3.heap.size) (cs := [.int .i64 X0.rm, .int .i64 X0.lv, .slice fW00 fW01 fW02]) (q := 0) (HR.out.right.right.right.right.right.right.left) (List.mem_singleton.2 rfl) rfl).2
  have da00 : w9.cell? ⟨w.heap.size, 0, none⟩ = some (.int .i64 d0.rm) := (Rows.bcell (T := 24) (d := 3) (b := w.heap.size) (cs := [.int .i64 d0.rm, .int .i64 d0.lv, .slice A0 n0 c0]) (q := 0) (HR.out.right.right.right.right.right.right.right.right.right) (List.mem_singleton.2 rfl) rfl).1
  have da01 : w9.cell? ⟨w.heap.size, 1, none⟩ = some (.int .i64 d0.lv) := (Rows.bcell (T := 24) (d := 3) (b := w.heap.size) (cs := [.int .i64 d0.rm, .int .i64 d0.lv, .slice A0 n0 c0]) (q := 1) (HR.out.right.right.right.right.right.right.right.right.right) (List.mem_singleton.2 rfl) rfl).1
  have da02 : w9.cell? ⟨w.heap.size, 2, none⟩ = some (.slice A0 n0 c0) := (Rows.bcell (T := 24) (d := 3) (b := w.heap.size) (cs := [.int .i64 d0.rm, .int .i64 d0.lv, .slice A0 n0 c0]) (q := 2) (HR.out.right.right.right.right.right.right.right.right.right) (List.mem_singleton.2 rfl) rfl).1
  have ta0 : w.heap.size < w9.heap.size := (Rows.bcell (T := 24) (d := 3) (b := w.heap.size) (cs := [.int .i64 d0.rm, .int .i64 d0.lv, .slice A0 n0 c0]) (q := 0) (HR.out.right.right.right.right.right.right.right.right.right) (List.mem_singleton.2 rfl) rfl).2
  refine hK.out _ _ ⟨dbx00, dbx01, dbx02, da00, da01, da02⟩ (fun hS9 => ?_)
  refine wpAnyH_take (i := 4) (oi := ?oi105) (v := ?v105) ?hi105 (by kernel_rfl) ?hf105 ?hr105 ?hQ105 (Or.inl ⟨?hw105, ?hy105⟩) (by assumption) ?rest105
  case hi105 => simp only [List.getElem?_toArray, List.getElem?_cons_succ, List.getElem?_cons_zero]; rfl
  case hf105 => kernel_rfl
  case hr105 => kernel_rfl
  case hw105 => rfl
  case hy105 => (intro w hSw; (try dsimp only at hSw); go_simp; all_goals (first | done | with_reducible rfl))
  case hQ105 => exact fun _ _ _ h => h
  simp only [Act.put, List.setIfInBounds_toArray, List.set_cons_zero, List.set_cons_succ]
  refine wpAnyH_done (by kernel_rfl) ?_ _
  replace HR := hid (HR.out.sub (List.sublist_append_right _ _))
  clear Sy0
  clear dbG00 dbG01 dbG02 tbG0 dbx00 dbx01 dbx02 tbx0 dbW00 dbW01 dbW02 tbW0 da00 da01 da02 ta0
  have dbG00 : w9.cell? ⟨w5.heap.size, 0, none⟩ = some (.int .i64 X0.rm) := (Rows.bcell (T := 29) (d := 3) (b := w5.heap.size) (cs := [.int .i64 X0.rm, .int .i64 X0.lv, .slice fG00 fG01 fG02]) (q := 0) (HR.out.left) (List.mem_singleton.2 rfl) rfl).1
  have dbG01 : w9.cell? ⟨w5.heap.size, 1, none⟩ = some (.int .i64 X0.lv) := (Rows.bcell (T := 29) (d := 3) (b := w5.heap.size) (cs := [.int .i64 X0.rm, .int .i64 X0.lv, .slice fG00 fG01 fG02]) (q := 1) (HR.out.left) (List.mem_singleton.2 rfl) rfl).1
  have dbG02 : w9.cell? ⟨w5.heap.size, 2, none⟩ = some (.slice fG00 fG01 fG02) := (Rows.bcell (T := 29) (d := 3) (b := w5.heap.size) (cs := [.int .i64 X0.rm, .int .i64 X0.lv, .slice fG00 fG01 fG02]) (q := 2) (HR.out.left) (List.mem_singleton.2 rfl) rfl).1
  have tbG0 : w5.heap.size < w9.heap.size := (Rows.bcell (T := 29) (d := 3) (b := w5.heap.size) (cs := [.int .i64 X0.rm, .int .i64 X0.lv, .slice fG00 fG01 fG02]) (q := 0) (HR.out.left) (List.mem_singleton.2 rfl) rfl).2
  have dbx00 : w9.cell? ⟨w4.heap.size, 0, none⟩ = some (.int .i64 d0.rm) := (Rows.bcell (T := 29) (d := 3) (b := w4.heap.size) (cs := [.int .i64 d0.rm, .int .i64 d0.lv, .slice fx00 fx01 fx02]) (q := 0) (HR.out.right.right.right.left) (List.mem_singleton.2 rfl) rfl).1
  have dbx01 : w9.cell? ⟨w4.heap.size, 1, none⟩ = some (.int .i64 d0.lv) := (Rows.bcell (T := 29) (d := 3) (b := w4.heap.size) (cs := [.int .i64 d0.rm, .int .i64 d0.lv, .slice fx00 fx01 fx02]) (q := 1) (HR.out.right.right.right.left) (List.mem_singleton.2 rfl) rfl).1
  have dbx02 : w9.cell? ⟨w4.heap.size, 2, none⟩ = some (.slice fx00 fx01 fx02) := (Rows.bcell (T := 29) (d := 3) (b := w4.heap.size) (cs := [.int .i64 d0.rm, .int .i64 d0.lv, .slice fx00 fx01 fx02]) (q := 2) (HR.out.right.right.right.left) (List.mem_singleton.2 rfl) rfl).1
  have tbx0 : w4.heap.size < w9.heap.size := (Rows.bcell (T := 29) (d := 3) (b := w4.heap.size) (cs := [.int .i64 d0.rm, .int .i64 d0.lv, .slice fx00 fx01 fx02]) (q := 0) (HR.out.right.right.right.left) (List.mem_singleton.2 rfl) rfl).2
  have dbW00 : w9.cell? ⟨w3.heap.size, 0, none⟩ = some (.int .i64 X0.rm) := (Rows.bcell (T := 29) (d := 3) (b := w3.heap.size) (cs := [.int .i64 X0.rm, .int .i64 X0.lv, .slice fW00 fW01 fW02]) (q := 0) (HR.out.right.right.right.right.right.left) (List.mem_singleton.2 rfl) rfl).1
  have dbW01 : w9.cell? ⟨w3.heap.size, 1, none⟩ = some (.int .i64 X0.lv) := (Rows.bcell (T := 29) (d := 3) (b := w3.heap.size) (cs := [.int .i64 X0.rm, .int .i64 X0.lv, .slice fW00 fW01 fW02]) (q := 1) (HR.out.right.right.right.right.right.left) (List.mem_singleton.2 rfl) rfl).1
  have dbW02 : w9.cell? ⟨w3.heap.size, 2, none⟩ = some (.slice fW00 fW01 fW02) := (Rows.bcell (T := 29) (d := 3) (b := w3.heap.size) (cs := [.int .i64 X0.rm, .int .i64 X0.lv, .slice fW00 fW01 fW02]) (q := 2) (HR.out.right.right.right.right.right.left) (List.mem_singleton.2 rfl) rfl).1
  have tbW0 : w3.heap.size < w9.heap.size := (Rows.bcell (T := 29) (d := 3) (b := w3.heap.size) (cs := [.int .i64 X0.rm, .int .i64 X0.lv, .slice fW00 fW01 fW02]) (q := 0) (HR.out.right.right.right.right.right.left) (List.mem_singleton.2 rfl) rfl).2
  have da00 : w9.cell? ⟨w.heap.size, 0, none⟩ = some (.int .i64 d0.rm) := (Rows.bcell (T := 24) (d := 3) (b := w.heap.size) (cs := [.int .i64 d0.rm, .int .i64 d0.lv, .slice A0 n0 c0]) (q := 0) (HR.out.right.right.right.right.right.right.right.right) (List.mem_singleton.2 rfl) rfl).1
  have da01 : w9.cell? ⟨w.heap.size, 1, none⟩ = some (.int .i64 d0.lv) := (Rows.bcell (T := 24) (d := 3) (b := w.heap.size) (cs := [.int .i64 d0.rm, .int .i64 d0.lv, .slice A0 n0 c0]) (q := 1) (HR.out.right.right.right.right.right.right.right.right) (List.mem_singleton.2 rfl) rfl).1
  have da02 : w9.cell? ⟨w.heap.size, 2, none⟩ = some (.slice A0 n0 c0) := (Rows.bcell (T := 24) (d := 3) (b := w.heap.size) (cs := [.int .i64 d0.rm, .int .i64 d0.lv, .slice A0 n0 c0]) (q := 2) (HR.out.right.right.right.right.right.right.right.right) (List.mem_singleton.2 rfl) rfl).1
  have ta0 : w.heap.size < w9.heap.size := (Rows.bcell (T := 24) (d := 3) (b := w.heap.size) (cs := [.int .i64 d0.rm, .int .i64 d0.lv, .slice A0 n0 c0]) (q := 0) (HR.out.right.right.right.right.right.right.right.right) (List.mem_singleton.2 rfl) rfl).2
  replace HR := hid (HR.out.perm (((((((List.perm_append_comm_assoc _ _ _).append_left _).trans (List.perm_append_comm_assoc _ _ _)).append_left _).trans (List.perm_append_comm_assoc _ _ _)).append_left _).trans (List.perm_append_comm_assoc _ _ _)))
  go_wp2_with fail
  refine (markBufferX_c (k := 1) Sx0.out HR.out HB.out.size F0.out (by omega)).mono ?_
  rintro e w10 ⟨rx0, rsx0, rfl, hM, hr, hb, hlx0⟩
  replace HR := hid hr
  replace HB := hid (HB.out.trans hb)
  have Mx0 := hid hM
  clear hr hb hM Sx0
  clear dbG00 dbG01 dbG02 tbG0 dbx00 dbx01 dbx02 tbx0 dbW00 dbW01 dbW02 tbW0 da00 da01 da02 ta0
  have dbG00 : w10.cell? ⟨w5.heap.size, 0, none⟩ = some (.int .i64 X0.rm) := (Rows.bcell (T := 29) (d := 3) (b := w5.heap.size) (cs := [.int .i64 X0.rm, .int .i64 X0.lv, .slice fG00 fG01 fG02]) (q := 0) (HR.out.right.left) (List.mem_singleton.2 rfl) rfl).1
  have dbG01 : w10.cell? ⟨w5.heap.size, 1, none⟩ = some (.int .i64 X0.lv) := (Rows.bcell (T := 29) (d := 3) (b := w5.heap.size) (cs := [.int .i64 X0.rm, .int .i64 X0.lv, .slice fG00 fG01 fG02]) (q := 1) (HR.out.right.left) (List.mem_singleton.2 rfl) rfl).1
  have dbG02 : w10.cell? ⟨w5.heap.size, 2, none⟩ = some (.slice fG00 fG01 fG02) := (Rows.bcell (T := 29) (d := 3) (b := w5.heap.size) (cs := [.int .i64 X0.rm, .int .i64 X0.lv, .slice fG00 fG01 fG02]) (q := 2) (HR.out.right.left) (List.mem_singleton.2 rfl) rfl).1
  have tbG0 : w5.heap.size < w10.heap.size := (Rows.bcell (T := 29) (d := 3) (b := w5.heap.size) (cs := [.int .i64 X0.rm, .int .i64 X0.lv, .slice fG00 fG01 fG02]) (q := 0) (HR.out.right.left) (List.mem_singleton.2 rfl) rfl).2
  have dbx00 : w10.cell? ⟨w4.heap.size, 0, none⟩ = some (.int .i64 d0.rm) := (Rows.bcell (T := 29) (d := 3) (b := w4.heap.size) (cs := [.int .i64 d0.rm, .int .i64 d0.lv, .slice fx00 fx01 fx02]) (q := 0) (HR.out.right.right.right.right.left) (List.mem_singleton.2 rfl) rfl).1
  have dbx01 : w10.cell? ⟨w4.heap.size, 1, none⟩ = some (.int .i64 d0.lv) := (Rows.bcell (T := 29) (d := 3) (b := w4.heap.size) (cs := [.int .i64 d0.rm, .int .i64 d0.lv, .slice fx00 fx01 fx02]) (q := 1) (HR.out.right.right.right.right.left) (List.mem_singleton.2 rfl) rfl).1
  have dbx02 : w10.cell? ⟨w4.heap.size, 2, none⟩ = some (.slice fx00 fx01 fx02) := (Rows.bcell (T := 29) (d := 3) (b := w4.heap.size) (cs := [.int .i64 d0.rm, .int .i64 d0.lv, .slice fx00 fx01 fx02]) (q := 2) (HR.out.right.right.right.right.left) (List.mem_singleton.2 rfl) rfl).1
  have tbx0 : w4.heap.size < w10.heap.size := (Rows.bcell (T := 29) (d := 3) (b := w4.heap.size) (cs := [.int .i64 d0.rm, .int .i64 d0.lv, .slice fx00 fx01 fx02]) (q := 0) (HR.out.right.right.right.right.left) (List.mem_singleton.2 rfl) rfl).2
  have dbW00 : w10.cell? ⟨w3.heap.size, 0, none⟩ = some (.int .i64 X0.rm) := (Rows.bcell (T := 29) (d := 3) (b := w3.heap.size) (cs := [.int .i64 X0.rm, .int .i64 X0.lv, .slice fW00 fW01 fW02]) (q := 0) (HR.out.right.right.right.right.right.left) (List.mem_singleton.2 rfl) rfl).1
  have dbW01 : w10.cell? ⟨w3.heap.size, 1, none⟩ = some (.int .i64 X0.lv) := (Rows.bcell (T := 29) (d := 3) (b := w3.heap.size) (cs := [.int .i64 X0.rm, .int .i64 X0.lv, .slice fW00 fW01 fW02]) (q := 1) (HR.out.right.right.right.right.right.left) (List.mem_singleton.2 rfl) rfl).1
  have dbW02 : w10.cell? ⟨w3.heap.size, 2, none⟩ = some (.slice fW00 fW01 fW02) := (Rows.bcell (T := 29) (d := 3) (b := w3.heap.size) (cs := [.int .i64 X0.rm, .int .i64 X0.lv, .slice fW00 fW01 fW02]) (q := 2) (HR.out.right.right.right.right.right.left) (List.mem_singleton.2 rfl) rfl).1
  have tbW0 : w3.heap.size < w10.heap.size := (Rows.bcell (T := 29) (d := 3) (b := w3.heap.size) (cs := [.int .i64 X0.rm, .int .i64 X0.lv, .slice fW00 fW01 fW02]) (q := 0) (HR.out.right.right.right.right.right.left) (List.mem_singleton.2 rfl) rfl).2
  have da00 : w10.cell? ⟨w.heap.size, 0, none⟩ = some (.int .i64 d0.rm) := (Rows.bcell (T := 24) (d := 3) (b := w.heap.size) (cs := [.int .i64 d0.rm, .int .i64 d0.lv, .slice A0 n0 c0]) (q := 0) (HR.out.right.right.right.right.right.right.right.right) (List.mem_singleton.2 rfl) rfl).1
  have da01 : w10.cell? ⟨w.heap.size, 1, none⟩ = some (.int .i64 d0.lv) := (Rows.bcell (T := 24) (d := 3) (b := w.heap.size) (cs := [.int .i64 d0.rm, .int .i64 d0.lv, .slice A0 n0 c0]) (q := 1) (HR.out.right.right.right.right.right.right.right.right) (List.mem_singleton.2 rfl) rfl).1
  have da02 : w10.cell? ⟨w.heap.size, 2, none⟩ = some (.slice A0 n0 c0) := (Rows.bcell (T := 24) (d := 3) (b := w.heap.size) (cs := [.int .i64 d0.rm, .int .i64 d0.lv, .slice A0 n0 c0]) (q := 2) (HR.out.right.right.right.right.right.right.right.right) (List.mem_singleton.2 rfl) rfl).1
  have ta0 : w.heap.size < w10.heap.size := (Rows.bcell (T := 24) (d := 3) (b := w.heap.size) (cs := [.int .i64 d0.rm, .int .i64 d0.lv, .slice A0 n0 c0]) (q := 0) (HR.out.right.right.right.right.right.right.right.right) (List.mem_singleton.2 rfl) rfl).2
  replace HR := hid (HR.out.sub (List.sublist_append_right _ _))
  clear Mx0
  replace HR := hid (HR.out.sub ((List.Sublist.refl _).append ((List.Sublist.refl _).append ((List.Sublist.refl _).append (List.sublist_append_right _ _)))))
  clear dbG00 dbG01 dbG02 tbG0 dbx00 dbx01 dbx02 tbx0 dbW00 dbW01 dbW02 tbW0 da00 da01 da02 ta0
  have dbG00 : w10.cell? ⟨w5.heap.size, 0, none⟩ = some (.int .i64 X0.rm) := (Rows.bcell (T := 29) (d := 3) (b := w5.heap.size) (cs := [.int .i64 X0.rm, .int .i64 X0.lv, .slice fG00 fG01 fG02]) (q := 0) (HR.out.left) (List.mem_singleton.2 rfl) rfl).1
  have dbG01 : w10.cell? ⟨w5.heap.size, 1, none⟩ = some (.int .i64 X0.lv) := (Rows.bcell (T := 29) (d := 3) (b := w5.heap.size) (cs := [.int .i64 X0.rm, .int .i64 X0.lv, .slice fG00 fG01 fG02]) (q := 1) (HR.out.left) (List.mem_singleton.2 rfl) rfl).1
  have dbG02 : w10.cell? ⟨w5.heap.size, 2, none⟩ = some (.slice fG00 fG01 fG02) := (Rows.bcell (T := 29) (d := 3) (b := w5.heap.size) (cs := [.int .i64 X0.rm, .int .i64 X0.lv, .slice fG00 fG01 fG02]) (q := 2) (HR.out.left) (List.mem_singleton.2 rfl) rfl).1
  have tbG0 : w5.heap.size < w10.heap.size := (Rows.bcell (T := 29) (d := 3) (b := w5.heap.size) (cs := [.int .i64 X0.rm, .int .i64 X0.lv, .slice fG00 fG01 fG02]) (q := 0) (HR.out.left) (List.mem_singleton.2 rfl) rfl).2
  have dbW00 : w10.cell? ⟨w3.heap.size, 0, none⟩ = some (.int .i64 X0.rm) := (Rows.bcell (T := 29) (d := 3) (b := w3.heap.size) (cs := [.int .i64 X0.rm, .int .i64 X0.lv, .slice fW00 fW01 fW02]) (q := 0) (HR.out.right.right.right.left) (List.mem_singleton.2 rfl) rfl).1
  have dbW01 : w10.cell? ⟨w3.heap.size, 1, none⟩ = some (.int .i64 X0.lv) := (Rows.bcell (T := 29) (d := 3) (b := w3.heap.size) (cs := [.int .i64 X0.rm, .int .i64 X0.lv, .slice fW00 fW01 fW02]) (q := 1) (HR.out.right.right.right.left) (List.mem_singleton.2 rfl) rfl).1
  have dbW02 : w10.cell? ⟨w3.heap.size, 2, none⟩ = some (.slice fW00 fW01 fW02) := (Rows.bcell (T := 29) (d := 3) (b := w3.heap.size) (cs := [.int .i64 X0.rm, .int .i64 X0.lv, .slice fW00 fW01 fW02]) (q := 2) (HR.out.right.right.right.left) (List.mem_singleton.2 rfl) rfl).1
  have tbW0 : w3.heap.size < w10.heap.size := (Rows.bcell (T := 29) (d := 3) (b := w3.heap.size) (cs := [.int .i64 X0.rm, .int .i64 X0.lv, .slice fW00 fW01 fW02]) (q := 0) (HR.out.right.right.right.left) (List.mem_singleton.2 rfl) rfl).2
  have da00 : w10.cell? ⟨w.heap.size, 0, none⟩ = some (.int .i64 d0.rm) := (Rows.bcell (T := 24) (d := 3) (b := w.heap.size) (cs := [.int .i64 d0.rm, .int .i64 d0.lv, .slice A0 n0 c0]) (q := 0) (HR.out.right.right.right.right.right.right) (List.mem_singleton.2 rfl) rfl).1
  have da01 : w10.cell? ⟨w.heap.size, 1, none⟩ = some (.int .i64 d0.lv) := (Rows.bcell (T := 24) (d := 3) (b := w.heap.size) (cs := [.int .i64 d0.rm, .int .i64 d0.lv, .slice A0 n0 c0]) (q := 1) (HR.out.right.right.right.right.right.right) (List.mem_singleton.2 rfl) rfl).1
  have da02 : w10.cell? ⟨w.heap.size, 2, none⟩ = some (.slice A0 n0 c0) := (Rows.bcell (T := 24) (d := 3) (b := w.heap.size) (cs := [.int .i64 d0.rm, .int .i64 d0.lv, .slice A0 n0 c0]) (q := 2) (HR.out.right.right.right.right.right.right) (List.mem_singleton.2 rfl) rfl).1
  have ta0 : w.heap.size < w10.heap.size := (Rows.bcell (T := 24) (d := 3) (b := w.heap.size) (cs := [.int .i64 d0.rm, .int .i64 d0.lv, .slice A0 n0 c0]) (q := 0) (HR.out.right.right.right.right.right.right) (List.mem_singleton.2 rfl) rfl).2
  go_wp2_with fail
  refine (eqBufferX_c SG0.out (HR.out.right.left) SW0.out (HR.out.right.right.right.right.left)).mono ?_
  rintro e w11 ⟨rfl, hb⟩
  replace HR := hid (HR.out.below hb)
  replace HB := hid (HB.out.trans (hb.mono HB.out.size))
  clear hb
  clear dbG00 dbG01 dbG02 tbG0 dbW00 dbW01 dbW02 tbW0 da00 da01 da02 ta0
  have dbG00 : w11.cell? ⟨w5.heap.size, 0, none⟩ = some (.int .i64 X0.rm) := (Rows.bcell (T := 29) (d := 3) (b := w5.heap.size) (cs := [.int .i64 X0.rm, .int .i64 X0.lv, .slice fG00 fG01 fG02]) (q := 0) (HR.out.left) (List.mem_singleton.2 rfl) rfl).1
  have dbG01 : w11.cell? ⟨w5.heap.size, 1, none⟩ = some (.int .i64 X0.lv) := (Rows.bcell (T := 29) (d := 3) (b := w5.heap.size) (cs := [.int .i64 X0.rm, .int .i64 X0.lv, .slice fG00 fG01 fG02]) (q := 1) (HR.out.left) (List.mem_singleton.2 rfl) rfl).1
  have dbG02 : w11.cell? ⟨w5.heap.size, 2, none⟩ = some (.slice fG00 fG01 fG02) := (Rows.bcell (T := 29) (d := 3) (b := w5.heap.size) (cs := [.int .i64 X0.rm, .int .i64 X0.lv, .slice fG00 fG01 fG02]) (q := 2) (HR.out.left) (List.mem_singleton.2 rfl) rfl).1
  have tbG0 : w5.heap.size < w11.heap.size := (Rows.bcell (T := 29) (d := 3) (b := w5.heap.size) (cs := [.int .i64 X0.rm, .int .i64 X0.lv, .slice fG00 fG01 fG02]) (q := 0) (HR.out.left) (List.mem_singleton.2 rfl) rfl).2
  have dbW00 : w11.cell? ⟨w3.heap.size, 0, none⟩ = some (.int .i64 X0.rm) := (Rows.bcell (T := 29) (d := 3) (b := w3.heap.size) (cs := [.int .i64 X0.rm, .int .i64 X0.lv, .slice fW00 fW01 fW02]) (q := 0) (HR.out.right.right.right.left) (List.mem_singleton.2 rfl) rfl).1
  have dbW01 : w11.cell? ⟨w3.heap.size, 1, none⟩ = some (.int .i64 X0.lv) := (Rows.bcell (T := 29) (d := 3) (b := w3.heap.size) (cs := [.int .i64 X0.rm, .int .i64 X0.lv, .slice fW00 fW01 fW02]) (q := 1) (HR.out.right.right.right.left) (List.mem_singleton.2 rfl) rfl).1
  have dbW02 : w11.cell? ⟨w3.heap.size, 2, none⟩ = some (.slice fW00 fW01 fW02) := (Rows.bcell (T := 29) (d := 3) (b := w3.heap.size) (cs := [.int .i64 X0.rm, .int .i64 X0.lv, .slice fW00 fW01 fW02]) (q := 2) (HR.out.right.right.right.left) (List.mem_singleton.2 rfl) rfl).1
  have tbW0 : w3.heap.size < w11.heap.size := (Rows.bcell (T := 29) (d := 3) (b := w3.heap.size) (cs := [.int .i64 X0.rm, .int .i64 X0.lv, .slice fW00 fW01 fW02]) (q := 0) (HR.out.right.right.right.left) (List.mem_singleton.2 rfl) rfl).2
  have da00 : w11.cell? ⟨w.heap.size, 0, none⟩ = some (.int .i64 d0.rm) := (Rows.bcell (T := 24) (d := 3) (b := w.heap.size) (cs := [.int .i64 d0.rm, .int .i64 d0.lv, .slice A0 n0 c0]) (q := 0) (HR.out.right.right.right.right.right.right) (List.mem_singleton.2 rfl) rfl).1
  have da01 : w11.cell? ⟨w.heap.size, 1, none⟩ = some (.int .i64 d0.lv) := (Rows.bcell (T := 24) (d := 3) (b := w.heap.size) (cs := [.int .i64 d0.rm, .int .i64 d0.lv, .slice A0 n0 c0]) (q := 1) (HR.out.right.right.right.right.right.right) (List.mem_singleton.2 rfl) rfl).1
  have da02 : w11.cell? ⟨w.heap.size, 2, none⟩ = some (.slice A0 n0 c0) := (Rows.bcell (T := 24) (d := 3) (b := w.heap.size) (cs := [.int .i64 d0.rm, .int .i64 d0.lv, .slice A0 n0 c0]) (q := 2) (HR.out.right.right.right.right.right.right) (List.mem_singleton.2 rfl) rfl).1
  have ta0 : w.heap.size < w11.heap.size := (Rows.bcell (T := 24) (d := 3) (b := w.heap.size) (cs := [.int .i64 d0.rm, .int .i64 d0.lv, .slice A0 n0 c0]) (q := 0) (HR.out.right.right.right.right.right.right) (List.mem_singleton.2 rfl) rfl).2
  go_wp2_with fail
  refine (eqRecsX_c SG1.out (HR.out.right.right.left) SW1.out (HR.out.right.right.right.right.right.left)).mono ?_
  rintro e w12 ⟨rfl, hb⟩
  replace HR := hid (HR.out.below hb)
  replace HB := hid (HB.out.trans (hb.mono HB.out.size))
  clear hb
  clear dbG00 dbG01 dbG02 tbG0 dbW00 dbW01 dbW02 tbW0 da00 da01 da02 ta0
  have dbG00 : w12.cell? ⟨w5.heap.size, 0, none⟩ = some (.int .i64 X0.rm) := (Rows.bcell (T := 29) (d := 3) (b := w5.heap.size) (cs := [.int .i64 X0.rm, .int .i64 X0.lv, .slice fG00 fG01 fG02]) (q := 0) (HR.out.left) (List.mem_singleton.2 rfl) rfl).1
  have dbG01 : w12.cell? ⟨w5.heap.size, 1, none⟩ = some (.int .i64 X0.lv) := (Rows.bcell (T := 29) (d := 3) (b := w5.heap.size) (cs := [.int .i64 X0.rm, .int .i64 X0.lv, .slice fG00 fG01 fG02]) (q := 1) (HR.out.left) (List.mem_singleton.2 rfl) rfl).1
  have dbG02 : w12.cell? ⟨w5.heap.size, 2, none⟩ = some (.slice fG00 fG01 fG02) := (Rows.bcell (T := 29) (d := 3) (b := w5.heap.size) (cs := [.int .i64 X0.rm, .int .i64 X0.lv, .slice fG00 fG01 fG02]) (q := 2) (HR.out.left) (List.mem_singleton.2 rfl) rfl).1
  have tbG0 : w5.heap.size < w12.heap.size := (Rows.bcell (T := 29) (d := 3) (b := w5.heap.size) (cs := [.int .i64 X0.rm, .int .i64 X0.lv, .slice fG00 fG01 fG02]) (q := 0) (HR.out.left) (List.mem_singleton.2 rfl) rfl).2
  have dbW00 : w12.cell? ⟨w3.heap.size, 0, none⟩ = some (.int .i64 X0.rm) := (Rows.bcell (T := 29) (d := 3) (b := w3.heap.size) (cs := [.int .i64 X0.rm, .int .i64 X0.lv, .slice fW00 fW01 fW02]) (q := 0) (HR.out.right.right.right.left) (List.mem_singleton.2 rfl) rfl).1
  have dbW01 : w12.cell? ⟨w3.heap.size, 1, none⟩ = some (.int .i64 X0.lv) := (Rows.bcell (T := 29) (d := 3) (b := w3.heap.size) (cs := [.int .i64 X0.rm, .int .i64 X0.lv, .slice fW00 fW01 fW02]) (q := 1) (HR.out.right.right.right.left) (List.mem_singleton.2 rfl) rfl).1
  have dbW02 : w12.cell? ⟨w3.heap.size, 2, none⟩ = some (.slice fW00 fW01 fW02) := (Rows.bcell (T := 29) (d := 3) (b := w3.heap.size) (cs := [.int .i64 X0.rm, .int .i64 X0.lv, .slice fW00 fW01 fW02]) (q := 2) (HR.out.right.right.right.left) (List.mem_singleton.2 rfl) rfl).1
  have tbW0 : w3.heap.size < w12.heap.size := (Rows.bcell (T := 29) (d := 3) (b := w3.heap.size) (cs := [.int .i64 X0.rm, .int .i64 X0.lv, .slice fW00 fW01 fW02]) (q := 0) (HR.out.right.right.right.left) (List.mem_singleton.2 rfl) rfl).2
  have da00 : w12.cell? ⟨w.heap.size, 0, none⟩ = some (.int .i64 d0.rm) := (Rows.bcell (T := 24) (d := 3) (b := w.heap.size) (cs := [.int .i64 d0.rm, .int .i64 d0.lv, .slice A0 n0 c0]) (q := 0) (HR.out.right.right.right.right.right.right) (List.mem_singleton.2 rfl) rfl).1
  have da01 : w12.cell? ⟨w.heap.size, 1, none⟩ = some (.int .i64 d0.lv) := (Rows.bcell (T := 24) (d := 3) (b := w.heap.size) (cs := [.int .i64 d0.rm, .int .i64 d0.lv, .slice A0 n0 c0]) (q := 1) (HR.out.right.right.right.right.right.right) (List.mem_singleton.2 rfl) rfl).1
  have da02 : w12.cell? ⟨w.heap.size, 2, none⟩ = some (.slice A0 n0 c0) := (Rows.bcell (T := 24) (d := 3) (b := w.heap.size) (cs := [.int .i64 d0.rm, .int .i64 d0.lv, .slice A0 n0 c0]) (q := 2) (HR.out.right.right.right.right.right.right) (List.mem_singleton.2 rfl) rfl).1
  have ta0 : w.heap.size < w12.heap.size := (Rows.bcell (T := 24) (d := 3) (b := w.heap.size) (cs := [.int .i64 d0.rm, .int .i64 d0.lv, .slice A0 n0 c0]) (q := 0) (HR.out.right.right.right.right.right.right) (List.mem_singleton.2 rfl) rfl).2
  replace HR := hid (HR.out.perm (List.perm_append_comm_assoc _ _ _))
  go_wp2_with fail
  refine (markBufferX_c (k := 1) SG0.out HR.out HB.out.size DX0.out (by omega)).mono ?_
  rintro e w13 ⟨rG0, rsG0, rfl, hM, hr, hb, hlG0⟩
  replace HR := hid hr
  replace HB := hid (HB.out.trans hb)
  have MG0 := hid hM
  clear hr hb hM SG0
  clear dbG00 dbG01 dbG02 tbG0 dbW00 dbW01 dbW02 tbW0 da00 da01 da02 ta0
  have dbG00 : w13.cell? ⟨w5.heap.size, 0, none⟩ = some (.int .i64 X0.rm) := (Rows.bcell (T := 29) (d := 3) (b := w5.heap.size) (cs := [.int .i64 X0.rm, .int .i64 X0.lv, .slice fG00 fG01 fG02]) (q := 0) (HR.out.right.left) (List.mem_singleton.2 rfl) rfl).1
  have dbG01 : w13.cell? ⟨w5.heap.size, 1, none⟩ = some (.int .i64 X0.lv) := (Rows.bcell (T := 29) (d := 3) (b := w5.heap.size) (cs := [.int .i64 X0.rm, .int .i64 X0.lv, .slice fG00 fG01 fG02]) (q := 1) (HR.out.right.left) (List.mem_singleton.2 rfl) rfl).1
  have dbG02 : w13.cell? ⟨w5.heap.size, 2, none⟩ = some (.slice fG00 fG01 fG02) := (Rows.bcell (T := 29) (d := 3) (b := w5.heap.size) (cs := [.int .i64 X0.rm, .int .i64 X0.lv, .slice fG00 fG01 fG02]) (q := 2) (HR.out.right.left) (List.mem_singleton.2 rfl) rfl).1
  have tbG0 : w5.heap.size < w13.heap.size := (Rows.bcell (T := 29) (d := 3) (b := w5.heap.size) (cs := [.int .i64 X0.rm, .int .i64 X0.lv, .slice fG00 fG01 fG02]) (q := 0) (HR.out.right.left) (List.mem_singleton.2 rfl) rfl).2
  have dbW00 : w13.cell? ⟨w3.heap.size, 0, none⟩ = some (.int .i64 X0.rm) := (Rows.bcell (T := 29) (d := 3) (b := w3.heap.size) (cs := [.int .i64 X0.rm, .int .i64 X0.lv, .slice fW00 fW01 fW02]) (q := 0) (HR.out.right.right.right.left) (List.mem_singleton.2 rfl) rfl).1
  have dbW01 : w13.cell? ⟨w3.heap.size, 1, none⟩ = some (.int .i64 X0.lv) := (Rows.bcell (T := 29) (d := 3) (b := w3.heap.size) (cs := [.int .i64 X0.rm, .int .i64 X0.lv, .slice fW00 fW01 fW02]) (q := 1) (HR.out.right.right.right.left) (List.mem_singleton.2 rfl) rfl).1
  have dbW02 : w13.cell? ⟨w3.heap.size, 2, none⟩ = some (.slice fW00 fW01 fW02) := (Rows.bcell (T := 29) (d := 3) (b := w3.heap.size) (cs := [.int .i64 X0.rm, .int .i64 X0.lv, .slice fW00 fW01 fW02]) (q := 2) (HR.out.right.right.right.left) (List.mem_singleton.2 rfl) rfl).1
  have tbW0 : w3.heap.size < w13.heap.size := (Rows.bcell (T := 29) (d := 3) (b := w3.heap.size) (cs := [.int .i64 X0.rm, .int .i64 X0.lv, .slice fW00 fW01 fW02]) (q := 0) (HR.out.right.right.right.left) (List.mem_singleton.2 rfl) rfl).2
  have da00 : w13.cell? ⟨w.heap.size, 0, none⟩ = some (.int .i64 d0.rm) := (Rows.bcell (T := 24) (d := 3) (b := w.heap.size) (cs := [.int .i64 d0.rm, .int .i64 d0.lv, .slice A0 n0 c0]) (q := 0) (HR.out.right.right.right.right.right.right) (List.mem_singleton.2 rfl) rfl).1
  have da01 : w13.cell? ⟨w.heap.size, 1, none⟩ = some (.int .i64 d0.lv) := (Rows.bcell (T := 24) (d := 3) (b := w.heap.size) (cs := [.int .i64 d0.rm, .int .i64 d0.lv, .slice A0 n0 c0]) (q := 1) (HR.out.right.right.right.right.right.right) (List.mem_singleton.2 rfl) rfl).1
  have da02 : w13.cell? ⟨w.heap.size, 2, none⟩ = some (.slice A0 n0 c0) := (Rows.bcell (T := 24) (d := 3) (b := w.heap.size) (cs := [.int .i64 d0.rm, .int .i64 d0.lv, .slice A0 n0 c0]) (q := 2) (HR.out.right.right.right.right.right.right) (List.mem_singleton.2 rfl) rfl).1
  have ta0 : w.heap.size < w13.heap.size := (Rows.bcell (T := 24) (d := 3) (b := w.heap.size) (cs := [.int .i64 d0.rm, .int .i64 d0.lv, .slice A0 n0 c0]) (q := 0) (HR.out.right.right.right.right.right.right) (List.mem_singleton.2 rfl) rfl).2
  replace HR := hid (HR.out.perm (((List.perm_append_comm_assoc _ _ _).append_left _).trans (List.perm_append_comm_assoc _ _ _)))
  go_wp2_with fail
  refine (markRecsX_c (k := rG0) SG1.out HR.out HB.out.size DX1.out (by omega)).mono ?_
  rintro e w14 ⟨rG1, rsG1, rfl, hM, hr, hb, hlG1⟩
  replace HR := hid hr
  replace HB := hid (HB.out.trans hb)
  have MG1 := hid hM
  clear hr hb hM SG1
  clear dbG00 dbG01 dbG02 tbG0 dbW00 dbW01 dbW02 tbW0 da00 da01 da02 ta0
  have dbG00 : w14.cell? ⟨w5.heap.size, 0, none⟩ = some (.int .i64 X0.rm) := (Rows.bcell (T := 29) (d := 3) (b := w5.heap.size) (cs := [.int .i64 X0.rm, .int .i64 X0.lv, .slice fG00 fG01 fG02]) (q := 0) (HR.out.right.right.left) (List.mem_singleton.2 rfl) rfl).1
  have dbG01 : w14.cell? ⟨w5.heap.size, 1, none⟩ = some (.int .i64 X0.lv) := (Rows.bcell (T := 29) (d := 3) (b := w5.heap.size) (cs := [.int .i64 X0.rm, .int .i64 X0.lv, .slice fG00 fG01 fG02]) (q := 1) (HR.out.right.right.left) (List.mem_singleton.2 rfl) rfl).1
  have dbG02 : w14.cell? ⟨w5.heap.size, 2, none⟩ = some (.slice fG00 fG01 fG02) := (Rows.bcell (T := 29) (d := 3) (b := w5.heap.size) (cs := [.int .i64 X0.rm, .int .i64 X0.lv, .slice fG00 fG01 fG02]) (q := 2) (HR.out.right.right.left) (List.mem_singleton.2 rfl) rfl).1
  have tbG0 : w5.heap.size < w14.heap.size := (Rows.bcell (T := 29) (d := 3) (b := w5.heap.size) (cs := [.int .i64 X0.rm, .int .i64 X0.lv, .slice fG00 fG01 fG02]) (q := 0) (HR.out.right.right.left) (List.mem_singleton.2 rfl) rfl).2
  have dbW00 : w14.cell? ⟨w3.heap.size, 0, none⟩ = some (.int .i64 X0.rm) := (Rows.bcell (T := 29) (d := 3) (b := w3.heap.size) (cs := [.int .i64 X0.rm, .int .i64 X0.lv, .slice fW00 fW01 fW02]) (q := 0) (HR.out.right.right.right.left) (List.mem_singleton.2 rfl) rfl).1
  have dbW01 : w14.cell? ⟨w3.heap.size, 1, none⟩ = some (.int .i64 X0.lv) := (Rows.bcell (T := 29) (d := 3) (b := w3.heap.size) (cs := [.int .i64 X0.rm, .int .i64 X0.lv, .slice fW00 fW01 fW02]) (q := 1) (HR.out.right.right.right.left) (List.mem_singleton.2 rfl) rfl).1
  have dbW02 : w14.cell? ⟨w3.heap.size, 2, none⟩ = some (.slice fW00 fW01 fW02) := (Rows.bcell (T := 29) (d := 3) (b := w3.heap.size) (cs := [.int .i64 X0.rm, .int .i64 X0.lv, .slice fW00 fW01 fW02]) (q := 2) (HR.out.right.right.right.left) (List.mem_singleton.2 rfl) rfl).1
  have tbW0 : w3.heap.size < w14.heap.size := (Rows.bcell (T := 29) (d := 3) (b := w3.heap.size) (cs := [.int .i64 X0.rm, .int .i64 X0.lv, .slice fW00 fW01 fW02]) (q := 0) (HR.out.right.right.right.left) (List.mem_singleton.2 rfl) rfl).2
  have da00 : w14.cell? ⟨w.heap.size, 0, none⟩ = some (.int .i64 d0.rm) := (Rows.bcell (T := 24) (d := 3) (b := w.heap.size) (cs := [.int .i64 d0.rm, .int .i64 d0.lv, .slice A0 n0 c0]) (q := 0) (HR.out.right.right.right.right.right.right) (List.mem_singleton.2 rfl) rfl).1
  have da01 : w14.cell? ⟨w.heap.size, 1, none⟩ = some (.int .i64 d0.lv) := (Rows.bcell (T := 24) (d := 3) (b := w.heap.size) (cs := [.int .i64 d0.rm, .int .i64 d0.lv, .slice A0 n0 c0]) (q := 1) (HR.out.right.right.right.right.right.right) (List.mem_singleton.2 rfl) rfl).1
  have da02 : w14.cell? ⟨w.heap.size, 2, none⟩ = some (.slice A0 n0 c0) := (Rows.bcell (T := 24) (d := 3) (b := w.heap.size) (cs := [.int .i64 d0.rm, .int .i64 d0.lv, .slice A0 n0 c0]) (q := 2) (HR.out.right.right.right.right.right.right) (List.mem_singleton.2 rfl) rfl).1
  have ta0 : w.heap.size < w14.heap.size := (Rows.bcell (T := 24) (d := 3) (b := w.heap.size) (cs := [.int .i64 d0.rm, .int .i64 d0.lv, .slice A0 n0 c0]) (q := 0) (HR.out.right.right.right.right.right.right) (List.mem_singleton.2 rfl) rfl).2
  go_wp2_with fail
  refine (heldBufferX_c MG0.out (HR.out.right.left)).mono ?_
  rintro e w15 ⟨rfl, hb⟩
  replace HR := hid (HR.out.below hb)
  replace HB := hid (HB.out.trans (hb.mono HB.out.size))
  clear hb
  clear dbG00 dbG01 dbG02 tbG0 dbW00 dbW01 dbW02 tbW0 da00 da01 da02 ta0
  have dbG00 : w15.cell? ⟨w5.heap.size, 0, none⟩ = some (.int .i64 X0.rm) := (Rows.bcell (T := 29) (d := 3) (b := w5.heap.size) (cs := [.int .i64 X0.rm, .int .i64 X0.lv, .slice fG00 fG01 fG02]) (q := 0) (HR.out.right.right.left) (List.mem_singleton.2 rfl) rfl).1
  have dbG01 : w15.cell? ⟨w5.heap.size, 1, none⟩ = some (.int .i64 X0.lv) := (Rows.bcell (T := 29) (d := 3) (b := w5.heap.size) (cs := [.int .i64 X0.rm, .int .i64 X0.lv, .slice fG00 fG01 fG02]) (q := 1) (HR.out.right.right.left) (List.mem_singleton.2 rfl) rfl).1
  have dbG02 : w15.cell? ⟨w5.heap.size, 2, none⟩ = some (.slice fG00 fG01 fG02) := (Rows.bcell (T := 29) (d := 3) (b := w5.heap.size) (cs := [.int .i64 X0.rm, .int .i64 X0.lv, .slice fG00 fG01 fG02]) (q := 2) (HR.out.right.right.left) (List.mem_singleton.2 rfl) rfl).1
  have tbG0 : w5.heap.size < w15.heap.size := (Rows.bcell (T := 29) (d := 3) (b := w5.heap.size) (cs := [.int .i64 X0.rm, .int .i64 X0.lv, .slice fG00 fG01 fG02]) (q := 0) (HR.out.right.right.left) (List.mem_singleton.2 rfl) rfl).2
  have dbW00 : w15.cell? ⟨w3.heap.size, 0, none⟩ = some (.int .i64 X0.rm) := (Rows.bcell (T := 29) (d := 3) (b := w3.heap.size) (cs := [.int .i64 X0.rm, .int .i64 X0.lv, .slice fW00 fW01 fW02]) (q := 0) (HR.out.right.right.right.left) (List.mem_singleton.2 rfl) rfl).1
  have dbW01 : w15.cell? ⟨w3.heap.size, 1, none⟩ = some (.int .i64 X0.lv) := (Rows.bcell (T := 29) (d := 3) (b := w3.heap.size) (cs := [.int .i64 X0.rm, .int .i64 X0.lv, .slice fW00 fW01 fW02]) (q := 1) (HR.out.right.right.right.left) (List.mem_singleton.2 rfl) rfl).1
  have dbW02 : w15.cell? ⟨w3.heap.size, 2, none⟩ = some (.slice fW00 fW01 fW02) := (Rows.bcell (T := 29) (d := 3) (b := w3.heap.size) (cs := [.int .i64 X0.rm, .int .i64 X0.lv, .slice fW00 fW01 fW02]) (q := 2) (HR.out.right.right.right.left) (List.mem_singleton.2 rfl) rfl).1
  have tbW0 : w3.heap.size < w15.heap.size := (Rows.bcell (T := 29) (d := 3) (b := w3.heap.size) (cs := [.int .i64 X0.rm, .int .i64 X0.lv, .slice fW00 fW01 fW02]) (q := 0) (HR.out.right.right.right.left) (List.mem_singleton.2 rfl) rfl).2
  have da00 : w15.cell? ⟨w.heap.size, 0, none⟩ = some (.int .i64 d0.rm) := (Rows.bcell (T := 24) (d := 3) (b := w.heap.size) (cs := [.int .i64 d0.rm, .int .i64 d0.lv, .slice A0 n0 c0]) (q := 0) (HR.out.right.right.right.right.right.right) (List.mem_singleton.2 rfl) rfl).1
  have da01 : w15.cell? ⟨w.heap.size, 1, none⟩ = some (.int .i64 d0.lv) := (Rows.bcell (T := 24) (d := 3) (b := w.heap.size) (cs := [.int .i64 d0.rm, .int .i64 d0.lv, .slice A0 n0 c0]) (q := 1) (HR.out.right.right.right.right.right.right) (List.mem_singleton.2 rfl) rfl).1
  have da02 : w15.cell? ⟨w.heap.size, 2, none⟩ = some (.slice A0 n0 c0) := (Rows.bcell (T := 24) (d := 3) (b := w.heap.size) (cs := [.int .i64 d0.rm, .int .i64 d0.lv, .slice A0 n0 c0]) (q := 2) (HR.out.right.right.right.right.right.right) (List.mem_singleton.2 rfl) rfl).1
  have ta0 : w.heap.size < w15.heap.size := (Rows.bcell (T := 24) (d := 3) (b := w.heap.size) (cs := [.int .i64 d0.rm, .int .i64 d0.lv, .slice A0 n0 c0]) (q := 0) (HR.out.right.right.right.right.right.right) (List.mem_singleton.2 rfl) rfl).2
  go_wp2_with fail
  refine (heldRecsX_c MG1.out (HR.out.left)).mono ?_
  rintro e w16 ⟨rfl, hb⟩
  replace HR := hid (HR.out.below hb)
  replace HB := hid (HB.out.trans (hb.mono HB.out.size))
  clear hb
  clear dbG00 dbG01 dbG02 tbG0 dbW00 dbW01 dbW02 tbW0 da00 da01 da02 ta0
  have dbG00 : w16.cell? ⟨w5.heap.size, 0, none⟩ = some (.int .i64 X0.rm) := (Rows.bcell (T := 29) (d := 3) (b := w5.heap.size) (cs := [.int .i64 X0.rm, .int .i64 X0.lv, .slice fG00 fG01 fG02]) (q := 0) (HR.out.right.right.left) (List.mem_singleton.2 rfl) rfl).1
  have dbG01 : w16.cell? ⟨w5.heap.size, 1, none⟩ = some (.int .i64 X0.lv) := (Rows.bcell (T := 29) (d := 3) (b := w5.heap.size) (cs := [.int .i64 X0.rm, .int .i64 X0.lv, .slice fG00 fG01 fG02]) (q := 1) (HR.out.right.right.left) (List.mem_singleton.2 rfl) rfl).1
  have dbG02 : w16.cell? ⟨w5.heap.size, 2, none⟩ = some (.slice fG00 fG01 fG02) := (Rows.bcell (T := 29) (d := 3) (b := w5.heap.size) (cs := [.int .i64 X0.rm, .int .i64 X0.lv, .slice fG00 fG01 fG02]) (q := 2) (HR.out.right.right.left) (List.mem_singleton.2 rfl) rfl).1
  have tbG0 : w5.heap.size < w16.heap.size := (Rows.bcell (T := 29) (d := 3) (b := w5.heap.size) (cs := [.int .i64 X0.rm, .int .i64 X0.lv, .slice fG00 fG01 fG02]) (q := 0) (HR.out.right.right.left) (List.mem_singleton.2 rfl) rfl).2
  have dbW00 : w16.cell? ⟨w3.heap.size, 0, none⟩ = some (.int .i64 X0.rm) := (Rows.bcell (T := 29) (d := 3) (b := w3.heap.size) (cs := [.int .i64 X0.rm, .int .i64 X0.lv, .slice fW00 fW01 fW02]) (q := 0) (HR.out.right.right.right.left) (List.mem_singleton.2 rfl) rfl).1
  have dbW01 : w16.cell? ⟨w3.heap.size, 1, none⟩ = some (.int .i64 X0.lv) := (Rows.bcell (T := 29) (d := 3) (b := w3.heap.size) (cs := [.int .i64 X0.rm, .int .i64 X0.lv, .slice fW00 fW01 fW02]) (q := 1) (HR.out.right.right.right.left) (List.mem_singleton.2 rfl) rfl).1
  have dbW02 : w16.cell? ⟨w3.heap.size, 2, none⟩ = some (.slice fW00 fW01 fW02) := (Rows.bcell (T := 29) (d := 3) (b := w3.heap.size) (cs := [.int .i64 X0.rm, .int .i64 X0.lv, .slice fW00 fW01 fW02]) (q := 2) (HR.out.right.right.right.left) (List.mem_singleton.2 rfl) rfl).1
  have tbW0 : w3.heap.size < w16.heap.size := (Rows.bcell (T := 29) (d := 3) (b := w3.heap.size) (cs := [.int .i64 X0.rm, .int .i64 X0.lv, .slice fW00 fW01 fW02]) (q := 0) (HR.out.right.right.right.left) (List.mem_singleton.2 rfl) rfl).2
  have da00 : w16.cell? ⟨w.heap.size, 0, none⟩ = some (.int .i64 d0.rm) := (Rows.bcell (T := 24) (d := 3) (b := w.heap.size) (cs := [.int .i64 d0.rm, .int .i64 d0.lv, .slice A0 n0 c0]) (q := 0) (HR.out.right.right.right.right.right.right) (List.mem_singleton.2 rfl) rfl).1
  have da01 : w16.cell? ⟨w.heap.size, 1, none⟩ = some (.int .i64 d0.lv) := (Rows.bcell (T := 24) (d := 3) (b := w.heap.size) (cs := [.int .i64 d0.rm, .int .i64 d0.lv, .slice A0 n0 c0]) (q := 1) (HR.out.right.right.right.right.right.right) (List.mem_singleton.2 rfl) rfl).1
  have da02 : w16.cell? ⟨w.heap.size, 2, none⟩ = some (.slice A0 n0 c0) := (Rows.bcell (T := 24) (d := 3) (b := w.heap.size) (cs := [.int .i64 d0.rm, .int .i64 d0.lv, .slice A0 n0 c0]) (q := 2) (HR.out.right.right.right.right.right.right) (List.mem_singleton.2 rfl) rfl).1
  have ta0 : w.heap.size < w16.heap.size := (Rows.bcell (T := 24) (d := 3) (b := w.heap.size) (cs := [.int .i64 d0.rm, .int .i64 d0.lv, .slice A0 n0 c0]) (q := 0) (HR.out.right.right.right.right.right.right) (List.mem_singleton.2 rfl) rfl).2
  go_wp2_with fail
  refine (toBufferY_c A0 n0 c0 d0 w.heap.size _ (T0.out.below HB.out (Nat.le_refl _)) HB.out.size F0.out).mono ?_
  rintro e w17 ⟨v, rs, rfl, hs, hr, hb⟩
  obtain ⟨fz00, fz01, fz02, rfl⟩ := hs.form hr
  have Sz0 := hid hs
  clear hs
  replace HR := hid (HR.out.newer hb hr HB.out.size)
  replace HB := hid (HB.out.trans (hb.mono HB.out.size))
  clear hb hr
  clear dbG00 dbG01 dbG02 tbG0 dbW00 dbW01 dbW02 tbW0 da00 da01 da02 ta0
  have dbG00 : w17.cell? ⟨w5.heap.size, 0, none⟩ = some (.int .i64 X0.rm) := (Rows.bcell (T := 29) (d := 3) (b := w5.heap.size) (cs := [.int .i64 X0.rm, .int .i64 X0.lv, .slice fG00 fG01 fG02]) (q := 0) (HR.out.right.right.right.left) (List.mem_singleton.2 rfl) rfl).1
  have dbG01 : w17.cell? ⟨w5.heap.size, 1, none⟩ = some (.int .i64 X0.lv) := (Rows.bcell (T := 29) (d := 3) (b := w5.heap.size) (cs := [.int .i64 X0.rm, .int .i64 X0.lv, .slice fG00 fG01 fG02]) (q := 1) (HR.out.right.right.right.left) (List.mem_singleton.2 rfl) rfl).1
  have dbG02 : w17.cell? ⟨w5.heap.size, 2, none⟩ = some (.slice fG00 fG01 fG02) := (Rows.bcell (T := 29) (d := 3) (b := w5.heap.size) (cs := [.int .i64 X0.rm, .int .i64 X0.lv, .slice fG00 fG01 fG02]) (q := 2) (HR.out.right.right.right.left) (List.mem_singleton.2 rfl) rfl).1
  have tbG0 : w5.heap.size < w17.heap.size := (Rows.bcell (T := 29) (d := 3) (b := w5.heap.size) (cs := [.int .i64 X0.rm, .int .i64 X0.lv, .slice fG00 fG01 fG02]) (q := 0) (HR.out.right.right.right.left) (List.mem_singleton.2 rfl) rfl).2
  have dbW00 : w17.cell? ⟨w3.heap.size, 0, none⟩ = some (.int .i64 X0.rm) := (Rows.bcell (T := 29) (d := 3) (b := w3.heap.size) (cs := [.int .i64 X0.rm, .int .i64 X0.lv, .slice fW00 fW01 fW02]) (q := 0) (HR.out.right.right.right.right.left) (List.mem_singleton.2 rfl) rfl).1
  have dbW01 : w17.cell? ⟨w3.heap.size, 1, none⟩ = some (.int .i64 X0.lv) := (Rows.bcell (T := 29) (d := 3) (b := w3.heap.size) (cs := [.int .i64 X0.rm, .int .i64 X0.lv, .slice fW00 fW01 fW02]) (q := 1) (HR.out.right.right.right.right.left) (List.mem_singleton.2 rfl) rfl).1
  have dbW02 : w17.cell? ⟨w3.heap.size, 2, none⟩ = some (.slice fW00 fW01 fW02) := (Rows.bcell (T := 29) (d := 3) (b := w3.heap.size) (cs := [.int .i64 X0.rm, .int .i64 X0.lv, .slice fW00 fW01 fW02]) (q := 2) (HR.out.right.right.right.right.left) (List.mem_singleton.2 rfl) rfl).1
  have tbW0 : w3.heap.size < w17.heap.size := (Rows.bcell (T := 29) (d := 3) (b := w3.heap.size) (cs := [.int .i64 X0.rm, .int .i64 X0.lv, .slice fW00 fW01 fW02]) (q := 0) (HR.out.right.right.right.right.left) (List.mem_singleton.2 rfl) rfl).2
  have da00 : w17.cell? ⟨w.heap.size, 0, none⟩ = some (.int .i64 d0.rm) := (Rows.bcell (T := 24) (d := 3) (b := w.heap.size) (cs := [.int .i64 d0.rm, .int .i64 d0.lv, .slice A0 n0 c0]) (q := 0) (HR.out.right.right.right.right.right.right.right) (List.mem_singleton.2 rfl) rfl).1
  have da01 : w17.cell? ⟨w.heap.size, 1, none⟩ = some (.int .i64 d0.lv) := (Rows.bcell (T := 24) (d := 3) (b := w.heap.size) (cs := [.int .i64 d0.rm, .int .i64 d0.lv, .slice A0 n0 c0]) (q := 1) (HR.out.right.right.right.right.right.right.right) (List.mem_singleton.2 rfl) rfl).1
  have da02 : w17.cell? ⟨w.heap.size, 2, none⟩ = some (.slice A0 n0 c0) := (Rows.bcell (T := 24) (d := 3) (b := w.heap.size) (cs := [.int .i64 d0.rm, .int .i64 d0.lv, .slice A0 n0 c0]) (q := 2) (HR.out.right.right.right.right.right.right.right) (List.mem_singleton.2 rfl) rfl).1
  have ta0 : w.heap.size < w17.heap.size := (Rows.bcell (T := 24) (d := 3) (b := w.heap.size) (cs := [.int .i64 d0.rm, .int .i64 d0.lv, .slice A0 n0 c0]) (q := 0) (HR.out.right.right.right.right.right.right.right) (List.mem_singleton.2 rfl) rfl).2
  go_wp2_with fail
  refine (cI.out _ _ (Sz0.out.at_ (HR.out.left) F0.out)).mono ?_
  rintro e w18 ⟨v0, rs0, v1, rs1, rfl, hs0, hs1, hr, hb⟩
  obtain ⟨fh00, fh01, fh02, rfl⟩ := hs0.form hr.left
  have Sh0 := hid hs0
  obtain ⟨fh10, fh11, fh12, rfl⟩ := hs1.form hr.right
  have Sh1 := hid hs1
  clear hs0 hs1
  replace HR := hid (HR.out.newer hb hr HB.out.size)
  replace HR := hid (by simpa only [List.append_assoc] using HR.out)
  replace HB := hid (HB.out.trans (hb.mono HB.out.size))
  clear hb hr
  clear dbG00 dbG01 dbG02 tbG0 dbW00 dbW01 dbW02 tbW0 da00 da01 da02 ta0
  have dbG00 : w18.cell? ⟨w5.heap.size, 0, none⟩ = some (.int .i64 X0.rm) := (Rows.bcell (T := 29) (d := 3) (b := w5.heap.size) (cs := [.int .i64 X0.rm, .int .i64 X0.lv, .slice fG00 fG01 fG02]) (q := 0) (HR.out.right.right.right.right.right.left) (List.mem_singleton.2 rfl) rfl).1
  have dbG01 : w18.cell? ⟨w5.heap.size, 1, none⟩ = some (.int .i64 X0.lv) := (Rows.bcell (T := 29) (d := 3) (b := w5.heap.size) (cs := [.int .i64 X0.rm, .int .i64 X0.lv, .slice fG00 fG01 fG02]) (q := 1) (HR.out.right.right.right.right.right.left) (List.mem_singleton.2 rfl) rfl).1
  have dbG02 : w18.cell? ⟨w5.heap.size, 2, none⟩ = some (.slice fG00 fG01 fG02) := (Rows.bcell (T := 29) (d := 3) (b := w5.heap.size) (cs := [.int .i64 X0.rm, .int .i64 X0.lv, .slice fG00 fG01 fG02]) (q := 2) (HR.out.right.right.right.right.right.left) (List.mem_singleton.2 rfl) rfl).1
  have tbG0 : w5.heap.size < w18.heap.size := (Rows.bcell (T := 29) (d := 3) (b := w5.heap.size) (cs := [.int .i64 X0.rm, .int .i64 X0.lv, .slice fG00 fG01 fG02]) (q := 0) (HR.out.right.right.right.right.right.left) (List.mem_singleton.2 rfl) rfl).2
  have dbW00 : w18.cell? ⟨w3.heap.size, 0, none⟩ = some (.int .i64 X0.rm) := (Rows.bcell (T := 29) (d := 3) (b := w3.heap.size) (cs := [.int .i64 X0.rm, .int .i64 X0.lv, .slice fW00 fW01 fW02]) (q := 0) (HR.out.right.right.right.right.right.right.left) (List.mem_singleton.2 rfl) rfl).1
  have dbW01 : w18.cell? ⟨w3.heap.size, 1, none⟩ = some (.int .i64 X0.lv) := (Rows.bcell (T := 29) (d := 3) (b := w3.heap.size) (cs := [.int .i64 X0.rm, .int .i64 X0.lv, .slice fW00 fW01 fW02]) (q := 1) (HR.out.right.right.right.right.right.right.left) (List.mem_singleton.2 rfl) rfl).1
  have dbW02 : w18.cell? ⟨w3.heap.size, 2, none⟩ = some (.slice fW00 fW01 fW02) := (Rows.bcell (T := 29) (d := 3) (b := w3.heap.size) (cs := [.int .i64 X0.rm, .int .i64 X0.lv, .slice fW00 fW01 fW02]) (q := 2) (HR.out.right.right.right.right.right.right.left) (List.mem_singleton.2 rfl) rfl).1
  have tbW0 : w3.heap.size < w18.heap.size := (Rows.bcell (T := 29) (d := 3) (b := w3.heap.size) (cs := [.int .i64 X0.rm, .int .i64 X0.lv, .slice fW00 fW01 fW02]) (q := 0) (HR.out.right.right.right.right.right.right.left) (List.mem_singleton.2 rfl) rfl).2
  have da00 : w18.cell? ⟨w.heap.size, 0, none⟩ = some (.int .i64 d0.rm) := (Rows.bcell (T := 24) (d := 3) (b := w.heap.size) (cs := [.int .i64 d0.rm, .int .i64 d0.lv, .slice A0 n0 c0]) (q := 0) (HR.out.right.right.right.right.right.right.right.right.right) (List.mem_singleton.2 rfl) rfl).1
  have da01 : w18.cell? ⟨w.heap.size, 1, none⟩ = some (.int .i64 d0.lv) := (Rows.bcell (T := 24) (d := 3) (b := w.heap.size) (cs := [.int .i64 d0.rm, .int .i64 d0.lv, .slice A0 n0 c0]) (q := 1) (HR.out.right.right.right.right.right.right.right.right.right) (List.mem_singleton.2 rfl) rfl).1
  have da02 : w18.cell? ⟨w.heap.size, 2, none⟩ = some (.slice A0 n0 c0) := (Rows.bcell (T := 24) (d := 3) (b := w.heap.size) (cs := [.int .i64 d0.rm, .int .i64 d0.lv, .slice A0 n0 c0]) (q := 2) (HR.out.right.right.right.right.right.right.right.right.right) (List.mem_singleton.2 rfl) rfl).1
  have ta0 : w.heap.size < w18.heap.size := (Rows.bcell (T := 24) (d := 3) (b := w.heap.size) (cs := [.int .i64 d0.rm, .int .i64 d0.lv, .slice A0 n0 c0]) (q := 0) (HR.out.right.right.right.right.right.right.right.right.right) (List.mem_singleton.2 rfl) rfl).2
  have hb : Below w18.heap.size w18 (w18.alloc (.cells #[.int .i64 X0.rm, .int .i64 X0.lv, .slice fh00 fh01 fh02] 29)) := (Below.refl _ _).alloc (Nat.le_refl _) _
  have hr := Rows.box w18 #[.int .i64 X0.rm, .int .i64 X0.lv, .slice fh00 fh01 fh02] 29 3 rfl
  replace HR := hid (HR.out.newer hb hr HB.out.size)
  replace HB := hid (HB.out.trans (hb.mono HB.out.size))
  clear hb hr
  clear dbG00 dbG01 dbG02 tbG0 dbW00 dbW01 dbW02 tbW0 da00 da01 da02 ta0
  have dbh00 : (w18.alloc (.cells #[.int .i64 X0.rm, .int .i64 X0.lv, .slice fh00 fh01 fh02] 29)).cell? ⟨w18.heap.size, 0, none⟩ = some (.int .i64 X0.rm) := (Rows.bcell (T := 29) (d := 3) (b := w18.heap.size) (cs := [.int .i64 X0.rm, .int .i64 X0.lv, .slice fh00 fh01 fh02]) (q := 0) (HR.out.left) (List.mem_singleton.2 rfl) rfl).1
  have dbh01 : (w18.alloc (.cells #[.int .i64 X0.rm, .int .i64 X0.lv, .slice fh00 fh01 fh02] 29)).cell? ⟨w18.heap.size, 1, none⟩ = some (.int .i64 X0.lv) := (Rows.bcell (T := 29) (d := 3) (b := w18.heap.size) (cs := [.int .i64 X0.rm, .int .i64 X0.lv, .slice fh00 fh01 fh02]) (q := 1) (HR.out.left) (List.mem_singleton.2 rfl) rfl).1
  have dbh02 : (w18.alloc (.cells #[.int .i64 X0.rm, .int .i64 X0.lv, .slice fh00 fh01 fh02] 29)).cell? ⟨w18.heap.size, 2, none⟩ = some (.slice fh00 fh01 fh02) := (Rows.bcell (T := 29) (d := 3) (b := w18.heap.size) (cs := [.int .i64 X0.rm, .int .i64 X0.lv, .slice fh00 fh01 fh02]) (q := 2) (HR.out.left) (List.mem_singleton.2 rfl) rfl).1
  have tbh0 : w18.heap.size < (w18.alloc (.cells #[.int .i64 X0.rm, .int .i64 X0.lv, .slice fh00 fh01 fh02] 29)).heap.size := (Rows.bcell (T := 29) (d := 3) (b := w18.heap.size) (cs := [.int .i64 X0.rm, .int .i64 X0.lv, .slice fh00 fh01 fh02]) (q := 0) (HR.out.left) (List.mem_singleton.2 rfl) rfl).2
  have dbG00 : (w18.alloc (.cells #[.int .i64 X0.rm, .int .i64 X0.lv, .slice fh00 fh01 fh02] 29)).cell? ⟨w5.heap.size, 0, none⟩ = some (.int .i64 X0.rm) := (Rows.bcell (T := 29) (d := 3) (b := w5.heap.size) (cs := [.int .i64 X0.rm, .int .i64 X0.lv, .slice fG00 fG01 fG02]) (q := 0) (HR.out.right.right.right.right.right.right.left) (List.mem_singleton.2 rfl) rfl).1
  have dbG01 : (w18.alloc (.cells #[.int .i64 X0.rm, .int .i64 X0.lv, .slice fh00 fh01 fh02] 29)).cell? ⟨w5.heap.size, 1, none⟩ = some (.int .i64 X0.lv) := (Rows.bcell (T := 29) (d := 3) (b := w5.heap.size) (cs := [.int .i64 X0.rm, .int .i64 X0.lv, .slice fG00 fG01 fG02]) (q := 1) (HR.out.right.right.right.right.right.right.left) (List.mem_singleton.2 rfl) rfl).1
  have dbG02 : (w18.alloc (.cells #[.int .i64 X0.rm, .int .i64 X0.lv, .slice fh00 fh01 fh02] 29)).cell? ⟨w5.heap.size, 2, none⟩ = some (.slice fG00 fG01 fG02) := (Rows.bcell (T := 29) (d := 3) (b := w5.heap.size) (cs := [.int .i64 X0.rm, .int .i64 X0.lv, .slice fG00 fG01 fG02]) (q := 2) (HR.out.right.right.right.right.right.right.left) (List.mem_singleton.2 rfl) rfl).1
  have tbG0 : w5.heap.size < (w18.alloc (.cells #[.int .i64 X0.rm, .int .i64 X0.lv, .slice fh00 fh01 fh02] 29)).heap.size := (Rows.bcell (T := 29) (d := 3) (b := w5.heap.size) (cs := [.int .i64 X0.rm, .int .i64 X0.lv, .slice fG00 fG01 fG02]) (q := 0) (HR.out.right.right.right.right.right.right.left) (List.mem_singleton.2 rfl) rfl).2
  have dbW00 : (w18.alloc (.cells #[.int .i64 X0.rm, .int .i64 X0.lv, .slice fh00 fh01 fh02] 29)).cell? ⟨w3.heap.size, 0, none⟩ = some (.int .i64 X0.rm) := (Rows.bcell (T := 29) (d := 3) (b := w3.heap.size) (cs := [.int .i64 X0.rm, .int .i64 X0.lv, .slice fW00 fW01 fW02]) (q := 0) (HR.out.right.right.right.right.right.right.right.left) (List.mem_singleton.2 rfl) rfl).1
  have dbW01 : (w18.alloc (.cells #[.int .i64 X0.rm, .int .i64 X0.lv, .slice fh00 fh01 fh02] 29)).cell? ⟨w3.heap.size, 1, none⟩ = some (.int .i64 X0.lv) := (Rows.bcell (T := 29) (d := 3) (b := w3.heap.size) (cs := [.int .i64 X0.rm, .int .i64 X0.lv, .slice fW00 fW01 fW02]) (q := 1) (HR.out.right.right.right.right.right.right.right.left) (List.mem_singleton.2 rfl) rfl).1
  have dbW02 : (w18.alloc (.cells #[.int .i64 X0.rm, .int .i64 X0.lv, .slice fh00 fh01 fh02] 29)).cell? ⟨w3.heap.size, 2, none⟩ = some (.slice fW00 fW01 fW02) := (Rows.bcell (T := 29) (d := 3) (b := w3.heap.size) (cs := [.int .i64 X0.rm, .int .i64 X0.lv, .slice fW00 fW01 fW02]) (q := 2) (HR.out.right.right.right.right.right.right.right.left) (List.mem_singleton.2 rfl) rfl).1
  have tbW0 : w3.heap.size < (w18.alloc (.cells #[.int .i64 X0.rm, .int .i64 X0.lv, .slice fh00 fh01 fh02] 29)).heap.size := (Rows.bcell (T := 29) (d := 3) (b := w3.heap.size) (cs := [.int .i64 X0.rm, .int .i64 X0.lv, .slice fW00 fW01 fW02]) (q := 0) (HR.out.right.right.right.right.right.right.right.left) (List.mem_singleton.2 rfl) rfl).2
  have da00 : (w18.alloc (.cells #[.int .i64 X0.rm, .int .i64 X0.lv, .slice fh00 fh01 fh02] 29)).cell? ⟨w.heap.size, 0, none⟩ = some (.int .i64 d0.rm) := (Rows.bcell (T := 24) (d := 3) (b := w.heap.size) (cs := [.int .i64 d0.rm, .int .i64 d0.lv, .slice A0 n0 c0]) (q := 0) (HR.out.right.right.right.right.right.right.right.right.right.right) (List.mem_singleton.2 rfl) rfl).1
  have da01 : (w18.alloc (.cells #[.int .i64 X0.rm, .int .i64 X0.lv, .slice fh00 fh01 fh02] 29)).cell? ⟨w.heap.size, 1, none⟩ = some (.int .i64 d0.lv) := (Rows.bcell (T := 24) (d := 3) (b := w.heap.size) (cs := [.int .i64 d0.rm, .int .i64 d0.lv, .slice A0 n0 c0]) (q := 1) (HR.out.right.right.right.right.right.right.right.right.right.right) (List.mem_singleton.2 rfl) rfl).1
  have da02 : (w18.alloc (.cells #[.int .i64 X0.rm, .int .i64 X0.lv, .slice fh00 fh01 fh02] 29)).cell? ⟨w.heap.size, 2, none⟩ = some (.slice A0 n0 c0) := (Rows.bcell (T := 24) (d := 3) (b := w.heap.size) (cs := [.int .i64 d0.rm, .int .i64 d0.lv, .slice A0 n0 c0]) (q := 2) (HR.out.right.right.right.right.right.right.right.right.right.right) (List.mem_singleton.2 rfl) rfl).1
  have ta0 : w.heap.size < (w18.alloc (.cells #[.int .i64 X0.rm, .int .i64 X0.lv, .slice fh00 fh01 fh02] 29)).heap.size := (Rows.bcell (T := 24) (d := 3) (b := w.heap.size) (cs := [.int .i64 d0.rm, .int .i64 d0.lv, .slice A0 n0 c0]) (q := 0) (HR.out.right.right.right.right.right.right.right.right.right.right) (List.mem_singleton.2 rfl) rfl).2
  replace HR := hid (HR.out.sub ((List.Sublist.refl _).append ((List.Sublist.refl _).append ((List.Sublist.refl _).append (List.sublist_append_right _ _)))))
  clear Sz0
  go_wp2_with fail
  refine (eqBufferX_c Sh0.out (HR.out.right.left) SW0.out (HR.out.right.right.right.right.right.right.right.left)).mono ?_
  rintro e w19 ⟨rfl, hb⟩
  replace HR := hid (HR.out.below hb)
  replace HB := hid (HB.out.trans (hb.mono HB.out.size))
  clear hb
  clear dbh00 dbh01 dbh02 tbh0 dbG00 dbG01 dbG02 tbG0 dbW00 dbW01 dbW02 tbW0 da00 da01 da02 ta0
  have dbh00 : w19.cell? ⟨w18.heap.size, 0, none⟩ = some (.int .i64 X0.rm) := (Rows.bcell (T := 29) (d := 3) (b := w18.heap.size) (cs := [.int .i64 X0.rm, .int .i64 X0.lv, .slice fh00 fh01 fh02]) (q := 0) (HR.out.left) (List.mem_singleton.2 rfl) rfl).1
  have dbh01 : w19.cell? ⟨w18.heap.size, 1, none⟩ = some (.int .i64 X0.lv) := (Rows.bcell (T := 29) (d := 3) (b := w18.heap.size) (cs := [.int .i64 X0.rm, .int .i64 X0.lv, .slice fh00 fh01 fh02]) (q := 1) (HR.out.left) (List.mem_singleton.2 rfl) rfl).1
  have dbh02 : w19.cell? ⟨w18.heap.size, 2, none⟩ = some (.slice fh00 fh01 fh02) := (Rows.bcell (T := 29) (d := 3) (b := w18.heap.size) (cs := [.int .i64 X0.rm, .int .i64 X0.lv, .slice fh00 fh01 fh02]) (q := 2) (HR.out.left) (List.mem_singleton.2 rfl) rfl).1
  have tbh0 : w18.heap.size < w19.heap.size := (Rows.bcell (T := 29) (d := 3) (b := w18.heap.size) (cs := [.int .i64 X0.rm, .int .i64 X0.lv, .slice fh00 fh01 fh02]) (q := 0) (HR.out.left) (List.mem_singleton.2 rfl) rfl).2
  have dbG00 : w19.cell? ⟨w5.heap.size, 0, none⟩ = some (.int .i64 X0.rm) := (Rows.bcell (T := 29) (d := 3) (b := w5.heap.size) (cs := [.int .i64 X0.rm, .int .i64 X0.lv, .slice fG00 fG01 fG02]) (q := 0) (HR.out.right.right.right.right.right.left) (List.mem_singleton.2 rfl) rfl).1
  have dbG01 : w19.cell? ⟨w5.heap.size, 1, none⟩ = some (.int .i64 X0.lv) := (Rows.bcell (T := 29) (d := 3) (b := w5.heap.size) (cs := [.int .i64 X0.rm, .int .i64 X0.lv, .slice fG00 fG01 fG02]) (q := 1) (HR.out.right.right.right.right.right.left) (List.mem_singleton.2 rfl) rfl).1
  have dbG02 : w19.cell? ⟨w5.heap.size, 2, none⟩ = some (.slice fG00 fG01 fG02) := (Rows.bcell (T := 29) (d := 3) (b := w5.heap.size) (cs := [.int .i64 X0.rm, .int .i64 X0.lv, .slice fG00 fG01 fG02]) (q := 2) (HR.out.right.right.right.right.right.left) (List.mem_singleton.2 rfl) rfl).1
  have tbG0 : w5.heap.size < w19.heap.size := (Rows.bcell (T := 29) (d := 3) (b := w5.heap.size) (cs := [.int .i64 X0.rm, .int .i64 X0.lv, .slice fG00 fG01 fG02]) (q := 0) (HR.out.right.right.right.right.right.left) (List.mem_singleton.2 rfl) rfl).2
  have dbW00 : w19.cell? ⟨w3.heap.size, 0, none⟩ = some (.int .i64 X0.rm) := (Rows.bcell (T := 29) (d := 3) (b := w3.heap.size) (cs := [.int .i64 X0.rm, .int .i64 X0.lv, .slice fW00 fW01 fW02]) (q := 0) (HR.out.right.right.right.right.right.right.left) (List.mem_singleton.2 rfl) rfl).1
  have dbW01 : w19.cell? ⟨w3.heap.size, 1, none⟩ = some (.int .i64 X0.lv) := (Rows.bcell (T := 29) (d := 3) (b := w3.heap.size) (cs := [.int .i64 X0.rm, .int .i64 X0.lv, .slice fW00 fW01 fW02]) (q := 1) (HR.out.right.right.right.right.right.right.left) (List.mem_singleton.2 rfl) rfl).1
  have dbW02 : w19.cell? ⟨w3.heap.size, 2, none⟩ = some (.slice fW00 fW01 fW02) := (Rows.bcell (T := 29) (d := 3) (b := w3.heap.size) (cs := [.int .i64 X0.rm, .int .i64 X0.lv, .slice fW00 fW01 fW02]) (q := 2) (HR.out.right.right.right.right.right.right.left) (List.mem_singleton.2 rfl) rfl).1
  have tbW0 : w3.heap.size < w19.heap.size := (Rows.bcell (T := 29) (d := 3) (b := w3.heap.size) (cs := [.int .i64 X0.rm, .int .i64 X0.lv, .slice fW00 fW01 fW02]) (q := 0) (HR.out.right.right.right.right.right.right.left) (List.mem_singleton.2 rfl) rfl).2
  have da00 : w19.cell? ⟨w.heap.size, 0, none⟩ = some (.int .i64 d0.rm) := (Rows.bcell (T := 24) (d := 3) (b := w.heap.size) (cs := [.int .i64 d0.rm, .int .i64 d0.lv, .slice A0 n0 c0]) (q := 0) (HR.out.right.right.right.right.right.right.right.right.right) (List.mem_singleton.2 rfl) rfl).1
  have da01 : w19.cell? ⟨w.heap.size, 1, none⟩ = some (.int .i64 d0.lv) := (Rows.bcell (T := 24) (d := 3) (b := w.heap.size) (cs := [.int .i64 d0.rm, .int .i64 d0.lv, .slice A0 n0 c0]) (q := 1) (HR.out.right.right.right.right.right.right.right.right.right) (List.mem_singleton.2 rfl) rfl).1
  have da02 : w19.cell? ⟨w.heap.size, 2, none⟩ = some (.slice A0 n0 c0) := (Rows.bcell (T := 24) (d := 3) (b := w.heap.size) (cs := [.int .i64 d0.rm, .int .i64 d0.lv, .slice A0 n0 c0]) (q := 2) (HR.out.right.right.right.right.right.right.right.right.right) (List.mem_singleton.2 rfl) rfl).1
  have ta0 : w.heap.size < w19.heap.size := (Rows.bcell (T := 24) (d := 3) (b := w.heap.size) (cs := [.int .i64 d0.rm, .int .i64 d0.lv, .slice A0 n0 c0]) (q := 0) (HR.out.right.right.right.right.right.right.right.right.right) (List.mem_singleton.2 rfl) rfl).2
  go_wp2_with fail
  refine (eqRecsX_c Sh1.out (HR.out.right.right.left) SW1.out (HR.out.right.right.right.right.right.right.right.right.left)).mono ?_
  rintro e w20 ⟨rfl, hb⟩
  replace HR := hid (HR.out.below hb)
  replace HB := hid (HB.out.trans (hb.mono HB.out.size))
  clear hb
  clear dbh00 dbh01 dbh02 tbh0 dbG00 dbG01 dbG02 tbG0 dbW00 dbW01 dbW02 tbW0 da00 da01 da02 ta0
  have dbh00 : w20.cell? ⟨w18.heap.size, 0, none⟩ = some (.int .i64 X0.rm) := (Rows.bcell (T := 29) (d := 3) (b := w18.heap.size) (cs := [.int .i64 X0.rm, .int .i64 X0.lv, .slice fh00 fh01 fh02]) (q := 0) (HR.out.left) (List.mem_singleton.2 rfl) rfl).1
  have dbh01 : w20.cell? ⟨w18.heap.size, 1, none⟩ = some (.int .i64 X0.lv) := (Rows.bcell (T := 29) (d := 3) (b := w18.heap.size) (cs := [.int .i64 X0.rm, .int .i64 X0.lv, .slice fh00 fh01 fh02]) (q := 1) (HR.out.left) (List.mem_singleton.2 rfl) rfl).1
  have dbh02 : w20.cell? ⟨w18.heap.size, 2, none⟩ = some (.slice fh00 fh01 fh02) := (Rows.bcell (T := 29) (d := 3) (b := w18.heap.size) (cs := [.int .i64 X0.rm, .int .i64 X0.lv, .slice fh00 fh01 fh02]) (q := 2) (HR.out.left) (List.mem_singleton.2 rfl) rfl).1
  have tbh0 : w18.heap.size < w20.heap.size := (Rows.bcell (T := 29) (d := 3) (b := w18.heap.size) (cs := [.int .i64 X0.rm, .int .i64 X0.lv, .slice fh00 fh01 fh02]) (q := 0) (HR.out.left) (List.mem_singleton.2 rfl) rfl).2
  have dbG00 : w20.cell? ⟨w5.heap.size, 0, none⟩ = some (.int .i64 X0.rm) := (Rows.bcell (T := 29) (d := 3) (b := w5.heap.size) (cs := [.int .i64 X0.rm, .int .i64 X0.lv, .slice fG00 fG01 fG02]) (q := 0) (HR.out.right.right.right.right.right.left) (List.mem_singleton.2 rfl) rfl).1
  have dbG01 : w20.cell? ⟨w5.heap.size, 1, none⟩ = some (.int .i64 X0.lv) := (Rows.bcell (T := 29) (d := 3) (b := w5.heap.size) (cs := [.int .i64 X0.rm, .int .i64 X0.lv, .slice fG00 fG01 fG02]) (q := 1) (HR.out.right.right.right.right.right.left) (List.mem_singleton.2 rfl) rfl).1
  have dbG02 : w20.cell? ⟨w5.heap.size, 2, none⟩ = some (.slice fG00 fG01 fG02) := (Rows.bcell (T := 29) (d := 3) (b := w5.heap.size) (cs := [.int .i64 X0.rm, .int .i64 X0.lv, .slice fG00 fG01 fG02]) (q := 2) (HR.out.right.right.right.right.right.left) (List.mem_singleton.2 rfl) rfl).1
  have tbG0 : w5.heap.size < w20.heap.size := (Rows.bcell (T := 29) (d := 3) (b := w5.heap.size) (cs := [.int .i64 X0.rm, .int .i64 X0.lv, .slice fG00 fG01 fG02]) (q := 0) (HR.out.right.right.right.right.right.left) (List.mem_singleton.2 rfl) rfl).2
  have dbW00 : w20.cell? ⟨w3.heap.size, 0, none⟩ = some (.int .i64 X0.rm) := (Rows.bcell (T := 29) (d := 3) (b := w3.heap.size) (cs := [.int .i64 X0.rm, .int .i64 X0.lv, .slice fW00 fW01 fW02]) (q := 0) (HR.out.right.right.right.right.right.right.left) (List.mem_singleton.2 rfl) rfl).1
  have dbW01 : w20.cell? ⟨w3.heap.size, 1, none⟩ = some (.int .i64 X0.lv) := (Rows.bcell (T := 29) (d := 3) (b := w3.heap.size) (cs := [.int .i64 X0.rm, .int .i64 X0.lv, .slice fW00 fW01 fW02]) (q := 1) (HR.out.right.right.right.right.right.right.left) (List.mem_singleton.2 rfl) rfl).1
  have dbW02 : w20.cell? ⟨w3.heap.size, 2, none⟩ = some (.slice fW00 fW01 fW02) := (Rows.bcell (T := 29) (d := 3) (b := w3.heap.size) (cs := [.int .i64 X0.rm, .int .i64 X0.lv, .slice fW00 fW01 fW02]) (q := 2) (HR.out.right.right.right.right.right.right.left) (List.mem_singleton.2 rfl) rfl).1
  have tbW0 : w3.heap.size < w20.heap.size := (Rows.bcell (T := 29) (d := 3) (b := w3.heap.size) (cs := [.int .i64 X0.rm, .int .i64 X0.lv, .slice fW00 fW01 fW02]) (q := 0) (HR.out.right.right.right.right.right.right.left) (List.mem_singleton.2 rfl) rfl).2
  have da00 : w20.cell? ⟨w.heap.size, 0, none⟩ = some (.int .i64 d0.rm) := (Rows.bcell (T := 24) (d := 3) (b := w.heap.size) (cs := [.int .i64 d0.rm, .int .i64 d0.lv, .slice A0 n0 c0]) (q := 0) (HR.out.right.right.right.right.right.right.right.right.right) (List.mem_singleton.2 rfl) rfl).1
  have da01 : w20.cell? ⟨w.heap.size, 1, none⟩ = some (.int .i64 d0.lv) := (Rows.bcell (T := 24) (d := 3) (b := w.heap.size) (cs := [.int .i64 d0.rm, .int .i64 d0.lv, .slice A0 n0 c0]) (q := 1) (HR.out.right.right.right.right.right.right.right.right.right) (List.mem_singleton.2 rfl) rfl).1
  have da02 : w20.cell? ⟨w.heap.size, 2, none⟩ = some (.slice A0 n0 c0) := (Rows.bcell (T := 24) (d := 3) (b := w.heap.size) (cs := [.int .i64 d0.rm, .int .i64 d0.lv, .slice A0 n0 c0]) (q := 2) (HR.out.right.right.right.right.right.right.right.right.right) (List.mem_singleton.2 rfl) rfl).1
  have ta0 : w.heap.size < w20.heap.size := (Rows.bcell (T := 24) (d := 3) (b := w.heap.size) (cs := [.int .i64 d0.rm, .int .i64 d0.lv, .slice A0 n0 c0]) (q := 0) (HR.out.right.right.right.right.right.right.right.right.right) (List.mem_singleton.2 rfl) rfl).2
  go_wp2_with fail
  refine (heldBufferX_c MG0.out (HR.out.right.right.right.right.left)).mono ?_
  rintro e w21 ⟨rfl, hb⟩
  replace HR := hid (HR.out.below hb)
  replace HB := hid (HB.out.trans (hb.mono HB.out.size))
  clear hb
  clear dbh00 dbh01 dbh02 tbh0 dbG00 dbG01 dbG02 tbG0 dbW00 dbW01 dbW02 tbW0 da00 da01 da02 ta0
  have dbh00 : w21.cell? ⟨w18.heap.size, 0, none⟩ = some (.int .i64 X0.rm) := (Rows.bcell (T := 29) (d := 3) (b := w18.heap.size) (cs := [.int .i64 X0.rm, .int .i64 X0.lv, .slice fh00 fh01 fh02]) (q := 0) (HR.out.left) (List.mem_singleton.2 rfl) rfl).1
  have dbh01 : w21.cell? ⟨w18.heap.size, 1, none⟩ = some (.int .i64 X0.lv) := (Rows.bcell (T := 29) (d := 3) (b := w18.heap.size) (cs := [.int .i64 X0.rm, .int .i64 X0.lv, .slice fh00 fh01 fh02]) (q := 1) (HR.out.left) (List.mem_singleton.2 rfl) rfl).1
  have dbh02 : w21.cell? ⟨w18.heap.size, 2, none⟩ = some (.slice fh00 fh01 fh02) := (Rows.bcell (T := 29) (d := 3) (b := w18.heap.size) (cs := [.int .i64 X0.rm, .int .i64 X0.lv, .slice fh00 fh01 fh02]) (q := 2) (HR.out.left) (List.mem_singleton.2 rfl) rfl).1
  have tbh0 : w18.heap.size < w21.heap.size := (Rows.bcell (T := 29) (d := 3) (b := w18.heap.size) (cs := [.int .i64 X0.rm, .int .i64 X0.lv, .slice fh00 fh01 fh02]) (q := 0) (HR.out.left) (List.mem_singleton.2 rfl) rfl).2
  have dbG00 : w21.cell? ⟨w5.heap.size, 0, none⟩ = some (.int .i64 X0.rm) := (Rows.bcell (T := 29) (d := 3) (b := w5.heap.size) (cs := [.int .i64 X0.rm, .int .i64 X0.lv, .slice fG00 fG01 fG02]) (q := 0) (HR.out.right.right.right.right.right.left) (List.mem_singleton.2 rfl) rfl).1
  have dbG01 : w21.cell? ⟨w5.heap.size, 1, none⟩ = some (.int .i64 X0.lv) := (Rows.bcell (T := 29) (d := 3) (b := w5.heap.size) (cs := [.int .i64 X0.rm, .int .i64 X0.lv, .slice fG00 fG01 fG02]) (q := 1) (HR.out.right.right.right.right.right.left) (List.mem_singleton.2 rfl) rfl).1
  have dbG02 : w21.cell? ⟨w5.heap.size, 2, none⟩ = some (.slice fG00 fG01 fG02) := (Rows.bcell (T := 29) (d := 3) (b := w5.heap.size) (cs := [.int .i64 X0.rm, .int .i64 X0.lv, .slice fG00 fG01 fG02]) (q := 2) (HR.out.right.right.right.right.right.left) (List.mem_singleton.2 rfl) rfl).1
  have tbG0 : w5.heap.size < w21.heap.size := (Rows.bcell (T := 29) (d := 3) (b := w5.heap.size) (cs := [.int .i64 X0.rm, .int .i64 X0.lv, .slice fG00 fG01 fG02]) (q := 0) (HR.out.right.right.right.right.right.left) (List.mem_singleton.2 rfl) rfl).2
  have dbW00 : w21.cell? ⟨w3.heap.size, 0, none⟩ = some (.int .i64 X0.rm) := (Rows.bcell (T := 29) (d := 3) (b := w3.heap.size) (cs := [.int .i64 X0.rm, .int .i64 X0.lv, .slice fW00 fW01 fW02]) (q := 0) (HR.out.right.right.right.right.right.right.left) (List.mem_singleton.2 rfl) rfl).1
  have dbW01 : w21.cell? ⟨w3.heap.size, 1, none⟩ = some (.int .i64 X0.lv) := (Rows.bcell (T := 29) (d := 3) (b := w3.heap.size) (cs := [.int .i64 X0.rm, .int .i64 X0.lv, .slice fW00 fW01 fW02]) (q := 1) (HR.out.right.right.right.right.right.right.left) (List.mem_singleton.2 rfl) rfl).1
  have dbW02 : w21.cell? ⟨w3.heap.size, 2, none⟩ = some (.slice fW00 fW01 fW02) := (Rows.bcell (T := 29) (d := 3) (b := w3.heap.size) (cs := [.int .i64 X0.rm, .int .i64 X0.lv, .slice fW00 fW01 fW02]) (q := 2) (HR.out.right.right.right.right.right.right.left) (List.mem_singleton.2 rfl) rfl).1
  have tbW0 : w3.heap.size < w21.heap.size := (Rows.bcell (T := 29) (d := 3) (b := w3.heap.size) (cs := [.int .i64 X0.rm, .int .i64 X0.lv, .slice fW00 fW01 fW02]) (q := 0) (HR.out.right.right.right.right.right.right.left) (List.mem_singleton.2 rfl) rfl).2
  have da00 : w21.cell? ⟨w.heap.size, 0, none⟩ = some (.int .i64 d0.rm) := (Rows.bcell (T := 24) (d := 3) (b := w.heap.size) (cs := [.int .i64 d0.rm, .int .i64 d0.lv, .slice A0 n0 c0]) (q := 0) (HR.out.right.right.right.right.right.right.right.right.right) (List.mem_singleton.2 rfl) rfl).1
  have da01 : w21.cell? ⟨w.heap.size, 1, none⟩ = some (.int .i64 d0.lv) := (Rows.bcell (T := 24) (d := 3) (b := w.heap.size) (cs := [.int .i64 d0.rm, .int .i64 d0.lv, .slice A0 n0 c0]) (q := 1) (HR.out.right.right.right.right.right.right.right.right.right) (List.mem_singleton.2 rfl) rfl).1
  have da02 : w21.cell? ⟨w.heap.size, 2, none⟩ = some (.slice A0 n0 c0) := (Rows.bcell (T := 24) (d := 3) (b := w.heap.size) (cs := [.int .i64 d0.rm, .int .i64 d0.lv, .slice A0 n0 c0]) (q := 2) (HR.out.right.right.right.right.right.right.right.right.right) (List.mem_singleton.2 rfl) rfl).1
  have ta0 : w.heap.size < w21.heap.size := (Rows.bcell (T := 24) (d := 3) (b := w.heap.size) (cs := [.int .i64 d0.rm, .int .i64 d0.lv, .slice A0 n0 c0]) (q := 0) (HR.out.right.right.right.right.right.right.right.right.right) (List.mem_singleton.2 rfl) rfl).2
  go_wp2_with fail
  refine (heldRecsX_c MG1.out (HR.out.right.right.right.left)).mono ?_
  rintro e w22 ⟨rfl, hb⟩
  replace HR := hid (HR.out.below hb)
  replace HB := hid (HB.out.trans (hb.mono HB.out.size))
  clear hb
  clear dbh00 dbh01 dbh02 tbh0 dbG00 dbG01 dbG02 tbG0 dbW00 dbW01 dbW02 tbW0 da00 da01 da02 ta0
  have dbh00 : w22.cell? ⟨w18.heap.size, 0, none⟩ = some (.int .i64 X0.rm) := (Rows.bcell (T := 29) (d := 3) (b := w18.heap.size) (cs := [.int .i64 X0.rm, .int .i64 X0.lv, .slice fh00 fh01 fh02]) (q := 0) (HR.out.left) (List.mem_singleton.2 rfl) rfl).1
  have dbh01 : w22.cell? ⟨w18.heap.size, 1, none⟩ = some (.int .i64 X0.lv) := (Rows.bcell (T := 29) (d := 3) (b := w18.heap.size) (cs := [.int .i64 X0.rm, .int .i64 X0.lv, .slice fh00 fh01 fh02]) (q := 1) (HR.out.left) (List.mem_singleton.2 rfl) rfl).1
  have dbh02 : w22.cell? ⟨w18.heap.size, 2, none⟩ = some (.slice fh00 fh01 fh02) := (Rows.bcell (T := 29) (d := 3) (b := w18.heap.size) (cs := [.int .i64 X0.rm, .int .i64 X0.lv, .slice fh00 fh01 fh02]) (q := 2) (HR.out.left) (List.mem_singleton.2 rfl) rfl).1
  have tbh0 : w18.heap.size < w22.heap.size := (Rows.bcell (T := 29) (d := 3) (b := w18.heap.size) (cs := [.int .i64 X0.rm, .int .i64 X0.lv, .slice fh00 fh01 fh02]) (q := 0) (HR.out.left) (List.mem_singleton.2 rfl) rfl).2
  have dbG00 : w22.cell? ⟨w5.heap.size, 0, none⟩ = some (.int .i64 X0.rm) := (Rows.bcell (T := 29) (d := 3) (b := w5.heap.size) (cs := [.int .i64 X0.rm, .int .i64 X0.lv, .slice fG00 fG01 fG02]) (q := 0) (HR.out.right.right.right.right.right.left) (List.mem_singleton.2 rfl) rfl).1
  have dbG01 : w22.cell? ⟨w5.heap.size, 1, none⟩ = some (.int .i64 X0.lv) := (Rows.bcell (T := 29) (d := 3) (b := w5.heap.size) (cs := [.int .i64 X0.rm, .int .i64 X0.lv, .slice fG00 fG01 fG02]) (q := 1) (HR.out.right.right.right.right.right.left) (List.mem_singleton.2 rfl) rfl).1
  have dbG02 : w22.cell? ⟨w5.heap.size, 2, none⟩ = some (.slice fG00 fG01 fG02) := (Rows.bcell (T := 29) (d := 3) (b := w5.heap.size) (cs := [.int .i64 X0.rm, .int .i64 X0.lv, .slice fG00 fG01 fG02]) (q := 2) (HR.out.right.right.right.right.right.left) (List.mem_singleton.2 rfl) rfl).1
  have tbG0 : w5.heap.size < w22.heap.size := (Rows.bcell (T := 29) (d := 3) (b := w5.heap.size) (cs := [.int .i64 X0.rm, .int .i64 X0.lv, .slice fG00 fG01 fG02]) (q := 0) (HR.out.right.right.right.right.right.left) (List.mem_singleton.2 rfl) rfl).2
  have dbW00 : w22.cell? ⟨w3.heap.size, 0, none⟩ = some (.int .i64 X0.rm) := (Rows.bcell (T := 29) (d := 3) (b := w3.heap.size) (cs := [.int .i64 X0.rm, .int .i64 X0.lv, .slice fW00 fW01 fW02]) (q := 0) (HR.out.right.right.right.right.right.right.left) (List.mem_singleton.2 rfl) rfl).1
  have dbW01 : w22.cell? ⟨w3.heap.size, 1, none⟩ = some (.int .i64 X0.lv) := (Rows.bcell (T := 29) (d := 3) (b := w3.heap.size) (cs := [.int .i64 X0.rm, .int .i64 X0.lv, .slice fW00 fW01 fW02]) (q := 1) (HR.out.right.right.right.right.right.right.left) (List.mem_singleton.2 rfl) rfl).1
  have dbW02 : w22.cell? ⟨w3.heap.size, 2, none⟩ = some (.slice fW00 fW01 fW02) := (Rows.bcell (T := 29) (d := 3) (b := w3.heap.size) (cs := [.int .i64 X0.rm, .int .i64 X0.lv, .slice fW00 fW01 fW02]) (q := 2) (HR.out.right.right.right.right.right.right.left) (List.mem_singleton.2 rfl) rfl).1
  have tbW0 : w3.heap.size < w22.heap.size := (Rows.bcell (T := 29) (d := 3) (b := w3.heap.size) (cs := [.int .i64 X0.rm, .int .i64 X0.lv, .slice fW00 fW01 fW02]) (q := 0) (HR.out.right.right.right.right.right.right.left) (List.mem_singleton.2 rfl) rfl).2
  have da00 : w22.cell? ⟨w.heap.size, 0, none⟩ = some (.int .i64 d0.rm) := (Rows.bcell (T := 24) (d := 3) (b := w.heap.size) (cs := [.int .i64 d0.rm, .int .i64 d0.lv, .slice A0 n0 c0]) (q := 0) (HR.out.right.right.right.right.right.right.right.right.right) (List.mem_singleton.2 rfl) rfl).1
  have da01 : w22.cell? ⟨w.heap.size, 1, none⟩ = some (.int .i64 d0.lv) := (Rows.bcell (T := 24) (d := 3) (b := w.heap.size) (cs := [.int .i64 d0.rm, .int .i64 d0.lv, .slice A0 n0 c0]) (q := 1) (HR.out.right.right.right.right.right.right.right.right.right) (List.mem_singleton.2 rfl) rfl).1
  have da02 : w22.cell? ⟨w.heap.size, 2, none⟩ = some (.slice A0 n0 c0) := (Rows.bcell (T := 24) (d := 3) (b := w.heap.size) (cs := [.int .i64 d0.rm, .int .i64 d0.lv, .slice A0 n0 c0]) (q := 2) (HR.out.right.right.right.right.right.right.right.right.right) (List.mem_singleton.2 rfl) rfl).1
  have ta0 : w.heap.size < w22.heap.size := (Rows.bcell (T := 24) (d := 3) (b := w.heap.size) (cs := [.int .i64 d0.rm, .int .i64 d0.lv, .slice A0 n0 c0]) (q := 0) (HR.out.right.right.right.right.right.right.right.right.right) (List.mem_singleton.2 rfl) rfl).2
  go_wp2_with fail
  go_ret
  exact ⟨rfl, HB.out⟩
end Go.Proofs.Ytebofooaadoojaa
