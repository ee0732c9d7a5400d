/-
  WALK: the law FnFlushBuffer. By gen_draw.py.
-/
import Derived.Test.YthgkkckbncgfmaaD8
namespace Go.Proofs.Ythgkkckbncgfmaa
open Go.RowKit Nm
set_option linter.unusedSimpArgs false
set_option linter.unusedVariables false

set_option maxHeartbeats 8000000 in
set_option maxRecDepth 100000 in
theorem walk_FnFlushBuffer (a0 : Option Addr) (len0 cap0 : Nat) (z0 : List Int) (w : World) (w0 : IsRow .u8 w a0 len0 cap0 z0) :
    Calls Try.prog 8 #[.slice a0 len0 cap0] w (BoolPost w true) := by
  have hb0 := w0.le
  have HB := hid (Below.refl w.heap.size w)
  by_cases h1 : (1048576 : Int) < (len0 : Int)
  · go_enter Try.func8, Try.ntmps8
    go_wp2_with fail
    go_ret
    exact ⟨rfl, HB.out⟩
  have DR := hid (drawFlushBuffer_c a0 len0 cap0 z0 w w0)
  clear w0
  go_enter Try.func8, Try.ntmps8
  go_wp2_with fail
  refine DR.out.mono ?_
  rintro e w1 ⟨v, rsL, d, rfl, hs0, hr, hb, hf, hl30⟩
  obtain ⟨fL0, fL1, fL2, rfl⟩ := hs0.form hr
  have SL := hid hs0
  clear hs0
  have HR := hid (hr.base HB.out.size)
  replace HB := hid (HB.out.trans (hb.mono HB.out.size))
  clear hb hr
  clear DR
  have FL := hid hf
  clear hf
  have C1 := hid (fun (W : World) (u : Value) (h : BufIn W W.heap.size u d) => iValidBuffer h)
  have C3 := hid (fun (W : World) (u : Value) (h : BufIn W W.heap.size u d) => iFlush h)
  have C4 := hid (fun (W : World) (u : Value) (h : BufIn W W.heap.size u d) => sFlush h)
  have E0 := hid (flushB_rc d)
  have FE := hid (flushB_fit FL.out)
  have K2 := hid (fun (hz : bufOk d = true) => flushR_ok hz)
  have K1 := hid (fun (hz : bufOk d = true) (W : World) (u : Value) (h : BufIn W W.heap.size u (flushB d)) => (show Calls Try.prog 27 #[u] W (FlushPost W (flushB d) []) by have h9 := iFlush h; rwa [(flushB_again hz).1, (flushB_again hz).2] at h9))
  generalize flushB d = E at *
  generalize flushR d = Y at *
  generalize bufOk d = q at *
  have FW := FE
  have hb : Below w1.heap.size w1 (w1.alloc (.cells #[.int .i64 d.rm, .int .i64 d.lv, .slice fL0 fL1 fL2] 39)) := (Below.refl _ _).alloc (Nat.le_refl _) _
  have hr := Rows.box w1 #[.int .i64 d.rm, .int .i64 d.lv, .slice fL0 fL1 fL2] 39 3 rfl
  replace HR := hid (HR.out.newer hb hr HB.out.size)
  replace HB := hid (HB.out.trans (hb.mono HB.out.size))
  clear hb hr
  have dbL0 := (Rows.bc (HR.out.left) 0 rfl).1
  have dbL1 := (Rows.bc (HR.out.left) 1 rfl).1
  have dbL2 := (Rows.bc (HR.out.left) 2 rfl).1
  have tbL := (Rows.bc (HR.out.left) 0 rfl).2
  go_wp2_with fail
  refine (C3.out _ _ (SL.out.at_ (HR.out.right) FL.out)).mono ?_
  rintro e w2 ⟨u0, rsE, u1, rsY, rfl, hs0, hs1, hr, hb⟩
  obtain ⟨fE0, fE1, fE2, rfl⟩ := hs0.form hr.left
  have SE := hid hs0
  obtain ⟨fY0, fY1, fY2, rfl⟩ := hs1.form hr.right
  have SY := hid hs1
  clear hs0 hs1
  replace HR := hid (HR.out.newer hb hr HB.out.size)
  replace HR := hid (by simpa only [List.append_assoc] using HR.out)
  replace HB := hid (HB.out.trans (hb.mono HB.out.size))
  clear hb hr
  clear dbL0 dbL1 dbL2 tbL
  have dbL0 := (Rows.bc (HR.out.right.right.left) 0 rfl).1
  have dbL1 := (Rows.bc (HR.out.right.right.left) 1 rfl).1
  have dbL2 := (Rows.bc (HR.out.right.right.left) 2 rfl).1
  have tbL := (Rows.bc (HR.out.right.right.left) 0 rfl).2
  have hb : Below w2.heap.size w2 (w2.alloc (.cells #[.int .i64 E.rm, .int .i64 E.lv, .slice fE0 fE1 fE2] 39)) := (Below.refl _ _).alloc (Nat.le_refl _) _
  have hr := Rows.box w2 #[.int .i64 E.rm, .int .i64 E.lv, .slice fE0 fE1 fE2] 39 3 rfl
  replace HR := hid (HR.out.newer hb hr HB.out.size)
  replace HB := hid (HB.out.trans (hb.mono HB.out.size))
  clear hb hr
  clear dbL0 dbL1 dbL2 tbL
  have dbE0 := (Rows.bc (HR.out.left) 0 rfl).1
  have dbE1 := (Rows.bc (HR.out.left) 1 rfl).1
  have dbE2 := (Rows.bc (HR.out.left) 2 rfl).1
  have tbE := (Rows.bc (HR.out.left) 0 rfl).2
  have dbL0 := (Rows.bc (HR.out.right.right.right.left) 0 rfl).1
  have dbL1 := (Rows.bc (HR.out.right.right.right.left) 1 rfl).1
  have dbL2 := (Rows.bc (HR.out.right.right.right.left) 2 rfl).1
  have tbL := (Rows.bc (HR.out.right.right.right.left) 0 rfl).2
  go_wp2_with fail
  refine (C4.out _ _ (SL.out.at_ (HR.out.right.right.right.right) FL.out)).mono ?_
  rintro e w3 ⟨u0, rsW, u1, rsV, rfl, hs0, hs1, hr, hb⟩
  obtain ⟨fW0, fW1, fW2, rfl⟩ := hs0.form hr.left
  have SW := hid hs0
  obtain ⟨fV0, fV1, fV2, rfl⟩ := hs1.form hr.right
  have SV := hid hs1
  clear hs0 hs1
  replace HR := hid (HR.out.newer hb hr HB.out.size)
  replace HR := hid (by simpa only [List.append_assoc] using HR.out)
  replace HB := hid (HB.out.trans (hb.mono HB.out.size))
  clear hb hr
  clear dbE0 dbE1 dbE2 tbE dbL0 dbL1 dbL2 tbL
  have dbE0 := (Rows.bc (HR.out.right.right.left) 0 rfl).1
  have dbE1 := (Rows.bc (HR.out.right.right.left) 1 rfl).1
  have dbE2 := (Rows.bc (HR.out.right.right.left) 2 rfl).1
  have tbE := (Rows.bc (HR.out.right.right.left) 0 rfl).2
  have dbL0 := (Rows.bc (HR.out.right.right.right.right.right.left) 0 rfl).1
  have dbL1 := (Rows.bc (HR.out.right.right.right.right.right.left) 1 rfl).1
  have dbL2 := (Rows.bc (HR.out.right.right.right.right.right.left) 2 rfl).1
  have tbL := (Rows.bc (HR.out.right.right.right.right.right.left) 0 rfl).2
  have hb : Below w3.heap.size w3 (w3.alloc (.cells #[.int .i64 E.rm, .int .i64 E.lv, .slice fW0 fW1 fW2] 39)) := (Below.refl _ _).alloc (Nat.le_refl _) _
  have hr := Rows.box w3 #[.int .i64 E.rm, .int .i64 E.lv, .slice fW0 fW1 fW2] 39 3 rfl
  replace HR := hid (HR.out.newer hb hr HB.out.size)
  replace HB := hid (HB.out.trans (hb.mono HB.out.size))
  clear hb hr
  clear dbE0 dbE1 dbE2 tbE dbL0 dbL1 dbL2 tbL
  have dbW0 := (Rows.bc (HR.out.left) 0 rfl).1
  have dbW1 := (Rows.bc (HR.out.left) 1 rfl).1
  have dbW2 := (Rows.bc (HR.out.left) 2 rfl).1
  have tbW := (Rows.bc (HR.out.left) 0 rfl).2
  have dbE0 := (Rows.bc (HR.out.right.right.right.left) 0 rfl).1
  have dbE1 := (Rows.bc (HR.out.right.right.right.left) 1 rfl).1
  have dbE2 := (Rows.bc (HR.out.right.right.right.left) 2 rfl).1
  have tbE := (Rows.bc (HR.out.right.right.right.left) 0 rfl).2
  have dbL0 := (Rows.bc (HR.out.right.right.right.right.right.right.left) 0 rfl).1
  have dbL1 := (Rows.bc (HR.out.right.right.right.right.right.right.left) 1 rfl).1
  have dbL2 := (Rows.bc (HR.out.right.right.right.right.right.right.left) 2 rfl).1
  have tbL := (Rows.bc (HR.out.right.right.right.right.right.right.left) 0 rfl).2
  go_wp2_with fail
  refine (equalBufX_c SE.out (HR.out.right.right.right.right.left) SW.out (HR.out.right.left)).mono ?_
  rintro e w4 ⟨rfl, hb⟩
  replace HR := hid (HR.out.below hb)
  replace HB := hid (HB.out.trans (hb.mono HB.out.size))
  clear hb
  clear dbW0 dbW1 dbW2 tbW dbE0 dbE1 dbE2 tbE dbL0 dbL1 dbL2 tbL
  have dbW0 := (Rows.bc (HR.out.left) 0 rfl).1
  have dbW1 := (Rows.bc (HR.out.left) 1 rfl).1
  have dbW2 := (Rows.bc (HR.out.left) 2 rfl).1
  have tbW := (Rows.bc (HR.out.left) 0 rfl).2
  have dbE0 := (Rows.bc (HR.out.right.right.right.left) 0 rfl).1
  have dbE1 := (Rows.bc (HR.out.right.right.right.left) 1 rfl).1
  have dbE2 := (Rows.bc (HR.out.right.right.right.left) 2 rfl).1
  have tbE := (Rows.bc (HR.out.right.right.right.left) 0 rfl).2
  have dbL0 := (Rows.bc (HR.out.right.right.right.right.right.right.left) 0 rfl).1
  have dbL1 := (Rows.bc (HR.out.right.right.right.right.right.right.left) 1 rfl).1
  have dbL2 := (Rows.bc (HR.out.right.right.right.right.right.right.left) 2 rfl).1
  have tbL := (Rows.bc (HR.out.right.right.right.right.right.right.left) 0 rfl).2
  go_wp2_with fail
  refine (equalRecsX_c SY.out (HR.out.right.right.right.right.right.left) SV.out (HR.out.right.right.left)).mono ?_
  rintro e w5 ⟨rfl, hb⟩
  replace HR := hid (HR.out.below hb)
  replace HB := hid (HB.out.trans (hb.mono HB.out.size))
  clear hb
  clear dbW0 dbW1 dbW2 tbW dbE0 dbE1 dbE2 tbE dbL0 dbL1 dbL2 tbL
  have dbW0 := (Rows.bc (HR.out.left) 0 rfl).1
  have dbW1 := (Rows.bc (HR.out.left) 1 rfl).1
  have dbW2 := (Rows.bc (HR.out.left) 2 rfl).1
  have tbW := (Rows.bc (HR.out.left) 0 rfl).2
  have dbE0 := (Rows.bc (HR.out.right.right.right.left) 0 rfl).1
  have dbE1 := (Rows.bc (HR.out.right.right.right.left) 1 rfl).1
  have dbE2 := (Rows.bc (HR.out.right.right.right.left) 2 rfl).1
  have tbE := (Rows.bc (HR.out.right.right.right.left) 0 rfl).2
  have dbL0 := (Rows.bc (HR.out.right.right.right.right.right.right.left) 0 rfl).1
  have dbL1 := (Rows.bc (HR.out.right.right.right.right.right.right.left) 1 rfl).1
  have dbL2 := (Rows.bc (HR.out.right.right.right.right.right.right.left) 2 rfl).1
  have tbL := (Rows.bc (HR.out.right.right.right.right.right.right.left) 0 rfl).2
  go_wp2_with fail
  refine (C1.out _ _ (SL.out.at_ (HR.out.right.right.right.right.right.right.right) FL.out)).mono ?_
  rintro e w6 ⟨rfl, hb⟩
  replace HR := hid (HR.out.below hb)
  replace HB := hid (HB.out.trans (hb.mono HB.out.size))
  clear hb
  clear dbW0 dbW1 dbW2 tbW dbE0 dbE1 dbE2 tbE dbL0 dbL1 dbL2 tbL
  have dbW0 := (Rows.bc (HR.out.left) 0 rfl).1
  have dbW1 := (Rows.bc (HR.out.left) 1 rfl).1
  have dbW2 := (Rows.bc (HR.out.left) 2 rfl).1
  have tbW := (Rows.bc (HR.out.left) 0 rfl).2
  have dbE0 := (Rows.bc (HR.out.right.right.right.left) 0 rfl).1
  have dbE1 := (Rows.bc (HR.out.right.right.right.left) 1 rfl).1
  have dbE2 := (Rows.bc (HR.out.right.right.right.left) 2 rfl).1
  have tbE := (Rows.bc (HR.out.right.right.right.left) 0 rfl).2
  have dbL0 := (Rows.bc (HR.out.right.right.right.right.right.right.left) 0 rfl).1
  have dbL1 := (Rows.bc (HR.out.right.right.right.right.right.right.left) 1 rfl).1
  have dbL2 := (Rows.bc (HR.out.right.right.right.right.right.right.left) 2 rfl).1
  have tbL := (Rows.bc (HR.out.right.right.right.right.right.right.left) 0 rfl).2
  cases q
  · go_wp2_with fail
    refine (equalBufX_c SE.out (HR.out.right.right.right.right.left) SW.out (HR.out.right.left)).mono ?_
    rintro e w7 ⟨rfl, hb⟩
    replace HR := hid (HR.out.below hb)
    replace HB := hid (HB.out.trans (hb.mono HB.out.size))
    clear hb
    clear dbW0 dbW1 dbW2 tbW dbE0 dbE1 dbE2 tbE dbL0 dbL1 dbL2 tbL
    have dbW0 := (Rows.bc (HR.out.left) 0 rfl).1
    have dbW1 := (Rows.bc (HR.out.left) 1 rfl).1
    have dbW2 := (Rows.bc (HR.out.left) 2 rfl).1
    have tbW := (Rows.bc (HR.out.left) 0 rfl).2
    have dbE0 := (Rows.bc (HR.out.right.right.right.left) 0 rfl).1
    have dbE1 := (Rows.bc (HR.out.right.right.right.left) 1 rfl).1
    have dbE2 := (Rows.bc (HR.out.right.right.right.left) 2 rfl).1
    have tbE := (Rows.bc (HR.out.right.right.right.left) 0 rfl).2
    have dbL0 := (Rows.bc (HR.out.right.right.right.right.right.right.left) 0 rfl).1
    have dbL1 := (Rows.bc (HR.out.right.right.right.right.right.right.left) 1 rfl).1
    have dbL2 := (Rows.bc (HR.out.right.right.right.right.right.right.left) 2 rfl).1
    have tbL := (Rows.bc (HR.out.right.right.right.right.right.right.left) 0 rfl).2
    go_wp2_with fail
    refine (equalRecsX_c SY.out (HR.out.right.right.right.right.right.left) SV.out (HR.out.right.right.left)).mono ?_
    rintro e w8 ⟨rfl, hb⟩
    replace HR := hid (HR.out.below hb)
    replace HB := hid (HB.out.trans (hb.mono HB.out.size))
    clear hb
    clear dbW0 dbW1 dbW2 tbW dbE0 dbE1 dbE2 tbE dbL0 dbL1 dbL2 tbL
    have dbW0 := (Rows.bc (HR.out.left) 0 rfl).1
    have dbW1 := (Rows.bc (HR.out.left) 1 rfl).1
    have dbW2 := (Rows.bc (HR.out.left) 2 rfl).1
    have tbW := (Rows.bc (HR.out.left) 0 rfl).2
    have dbE0 := (Rows.bc (HR.out.right.right.right.left) 0 rfl).1
    have dbE1 := (Rows.bc (HR.out.right.right.right.left) 1 rfl).1
    have dbE2 := (Rows.bc (HR.out.right.right.right.left) 2 rfl).1
    have tbE := (Rows.bc (HR.out.right.right.right.left) 0 rfl).2
    have dbL0 := (Rows.bc (HR.out.right.right.right.right.right.right.left) 0 rfl).1
    have dbL1 := (Rows.bc (HR.out.right.right.right.right.right.right.left) 1 rfl).1
    have dbL2 := (Rows.bc (HR.out.right.right.right.right.right.right.left) 2 rfl).1
    have tbL := (Rows.bc (HR.out.right.right.right.right.right.right.left) 0 rfl).2
    go_wp2_with fail
    go_ret
    exact ⟨rfl, HB.out⟩
  · replace K1 := hid (K1.out rfl)
    replace K2 := hid (K2.out rfl)
    go_wp2_with fail
    refine (K1.out _ _ (SE.out.at_ (HR.out.right.right.right.right.left) FE.out)).mono ?_
    rintro e w7 ⟨u0, rsA, u1, rsN, rfl, hs0, hs1, hr, hb⟩
    obtain ⟨fA0, fA1, fA2, rfl⟩ := hs0.form hr.left
    have SA := hid hs0
    obtain ⟨fN0, fN1, fN2, rfl⟩ := hs1.form hr.right
    have SN := hid hs1
    clear hs0 hs1
    replace HR := hid (HR.out.newer hb hr HB.out.size)
    replace HR := hid (by simpa only [List.append_assoc] using HR.out)
    replace HB := hid (HB.out.trans (hb.mono HB.out.size))
    clear hb hr
    clear dbW0 dbW1 dbW2 tbW dbE0 dbE1 dbE2 tbE dbL0 dbL1 dbL2 tbL
    have dbW0 := (Rows.bc (HR.out.right.right.left) 0 rfl).1
    have dbW1 := (Rows.bc (HR.out.right.right.left) 1 rfl).1
    have dbW2 := (Rows.bc (HR.out.right.right.left) 2 rfl).1
    have tbW := (Rows.bc (HR.out.right.right.left) 0 rfl).2
    have dbE0 := (Rows.bc (HR.out.right.right.right.right.right.left) 0 rfl).1
    have dbE1 := (Rows.bc (HR.out.right.right.right.right.right.left) 1 rfl).1
    have dbE2 := (Rows.bc (HR.out.right.right.right.right.right.left) 2 rfl).1
    have tbE := (Rows.bc (HR.out.right.right.right.right.right.left) 0 rfl).2
    have dbL0 := (Rows.bc (HR.out.right.right.right.right.right.right.right.right.left) 0 rfl).1
    have dbL1 := (Rows.bc (HR.out.right.right.right.right.right.right.right.right.left) 1 rfl).1
    have dbL2 := (Rows.bc (HR.out.right.right.right.right.right.right.right.right.left) 2 rfl).1
    have tbL := (Rows.bc (HR.out.right.right.right.right.right.right.right.right.left) 0 rfl).2
    have hcN : fN1 = 0 := by have h9 := (SN.out).count (HR.out.right.left); simpa using h9
    subst hcN
    have hb : Below w7.heap.size w7 (w7.alloc (.cells #[.int .i64 E.rm, .int .i64 E.lv, .slice fA0 fA1 fA2] 39)) := (Below.refl _ _).alloc (Nat.le_refl _) _
    have hr := Rows.box w7 #[.int .i64 E.rm, .int .i64 E.lv, .slice fA0 fA1 fA2] 39 3 rfl
    replace HR := hid (HR.out.newer hb hr HB.out.size)
    replace HB := hid (HB.out.trans (hb.mono HB.out.size))
    clear hb hr
    clear dbW0 dbW1 dbW2 tbW dbE0 dbE1 dbE2 tbE dbL0 dbL1 dbL2 tbL
    have dbA0 := (Rows.bc (HR.out.left) 0 rfl).1
    have dbA1 := (Rows.bc (HR.out.left) 1 rfl).1
    have dbA2 := (Rows.bc (HR.out.left) 2 rfl).1
    have tbA := (Rows.bc (HR.out.left) 0 rfl).2
    have dbW0 := (Rows.bc (HR.out.right.right.right.left) 0 rfl).1
    have dbW1 := (Rows.bc (HR.out.right.right.right.left) 1 rfl).1
    have dbW2 := (Rows.bc (HR.out.right.right.right.left) 2 rfl).1
    have tbW := (Rows.bc (HR.out.right.right.right.left) 0 rfl).2
    have dbE0 := (Rows.bc (HR.out.right.right.right.right.right.right.left) 0 rfl).1
    have dbE1 := (Rows.bc (HR.out.right.right.right.right.right.right.left) 1 rfl).1
    have dbE2 := (Rows.bc (HR.out.right.right.right.right.right.right.left) 2 rfl).1
    have tbE := (Rows.bc (HR.out.right.right.right.right.right.right.left) 0 rfl).2
    have dbL0 := (Rows.bc (HR.out.right.right.right.right.right.right.right.right.right.left) 0 rfl).1
    have dbL1 := (Rows.bc (HR.out.right.right.right.right.right.right.right.right.right.left) 1 rfl).1
    have dbL2 := (Rows.bc (HR.out.right.right.right.right.right.right.right.right.right.left) 2 rfl).1
    have tbL := (Rows.bc (HR.out.right.right.right.right.right.right.right.right.right.left) 0 rfl).2
    go_wp2_with fail
    refine (equalBufX_c SA.out (HR.out.right.left) SE.out (HR.out.right.right.right.right.right.right.right.left)).mono ?_
    rintro e w8 ⟨rfl, hb⟩
    replace HR := hid (HR.out.below hb)
    replace HB := hid (HB.out.trans (hb.mono HB.out.size))
    clear hb
    clear dbA0 dbA1 dbA2 tbA dbW0 dbW1 dbW2 tbW dbE0 dbE1 dbE2 tbE dbL0 dbL1 dbL2 tbL
    have dbA0 := (Rows.bc (HR.out.left) 0 rfl).1
    have dbA1 := (Rows.bc (HR.out.left) 1 rfl).1
    have dbA2 := (Rows.bc (HR.out.left) 2 rfl).1
    have tbA := (Rows.bc (HR.out.left) 0 rfl).2
    have dbW0 := (Rows.bc (HR.out.right.right.right.left) 0 rfl).1
    have dbW1 := (Rows.bc (HR.out.right.right.right.left) 1 rfl).1
    have dbW2 := (Rows.bc (HR.out.right.right.right.left) 2 rfl).1
    have tbW := (Rows.bc (HR.out.right.right.right.left) 0 rfl).2
    have dbE0 := (Rows.bc (HR.out.right.right.right.right.right.right.left) 0 rfl).1
    have dbE1 := (Rows.bc (HR.out.right.right.right.right.right.right.left) 1 rfl).1
    have dbE2 := (Rows.bc (HR.out.right.right.right.right.right.right.left) 2 rfl).1
    have tbE := (Rows.bc (HR.out.right.right.right.right.right.right.left) 0 rfl).2
    have dbL0 := (Rows.bc (HR.out.right.right.right.right.right.right.right.right.right.left) 0 rfl).1
    have dbL1 := (Rows.bc (HR.out.right.right.right.right.right.right.right.right.right.left) 1 rfl).1
    have dbL2 := (Rows.bc (HR.out.right.right.right.right.right.right.right.right.right.left) 2 rfl).1
    have tbL := (Rows.bc (HR.out.right.right.right.right.right.right.right.right.right.left) 0 rfl).2
    go_wp2_with fail
    refine (equalRecsX_c (K2.out ▸ SY.out) (HR.out.right.right.right.right.right.right.right.right.left) SL.out.recs (HR.out.right.right.right.right.right.right.right.right.right.right)).mono ?_
    rintro e w9 ⟨rfl, hb⟩
    replace HR := hid (HR.out.below hb)
    replace HB := hid (HB.out.trans (hb.mono HB.out.size))
    clear hb
    clear dbA0 dbA1 dbA2 tbA dbW0 dbW1 dbW2 tbW dbE0 dbE1 dbE2 tbE dbL0 dbL1 dbL2 tbL
    have dbA0 := (Rows.bc (HR.out.left) 0 rfl).1
    have dbA1 := (Rows.bc (HR.out.left) 1 rfl).1
    have dbA2 := (Rows.bc (HR.out.left) 2 rfl).1
    have tbA := (Rows.bc (HR.out.left) 0 rfl).2
    have dbW0 := (Rows.bc (HR.out.right.right.right.left) 0 rfl).1
    have dbW1 := (Rows.bc (HR.out.right.right.right.left) 1 rfl).1
    have dbW2 := (Rows.bc (HR.out.right.right.right.left) 2 rfl).1
    have tbW := (Rows.bc (HR.out.right.right.right.left) 0 rfl).2
    have dbE0 := (Rows.bc (HR.out.right.right.right.right.right.right.left) 0 rfl).1
    have dbE1 := (Rows.bc (HR.out.right.right.right.right.right.right.left) 1 rfl).1
    have dbE2 := (Rows.bc (HR.out.right.right.right.right.right.right.left) 2 rfl).1
    have tbE := (Rows.bc (HR.out.right.right.right.right.right.right.left) 0 rfl).2
    have dbL0 := (Rows.bc (HR.out.right.right.right.right.right.right.right.right.right.left) 0 rfl).1
    have dbL1 := (Rows.bc (HR.out.right.right.right.right.right.right.right.right.right.left) 1 rfl).1
    have dbL2 := (Rows.bc (HR.out.right.right.right.right.right.right.right.right.right.left) 2 rfl).1
    have tbL := (Rows.bc (HR.out.right.right.right.right.right.right.right.right.right.left) 0 rfl).2
    go_wp2_with fail
    go_ret
    exact ⟨rfl, HB.out⟩
end Go.Proofs.Ythgkkckbncgfmaa
