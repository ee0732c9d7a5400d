/-
  WALK: the law FnPushRecord. By gen_draw.py.
-/
import Derived.Test.YthgkkckbncgfmaaD12
import Derived.Deep.CutRange
import Derived.Deep.RegionHeld3
namespace Go.Proofs.Ythgkkckbncgfmaa
open Go.RowKit Nm
set_option linter.unusedSimpArgs false
set_option linter.unusedVariables false

set_option maxHeartbeats 8000000 in
set_option maxRecDepth 100000 in
theorem walk_FnPushRecord (a0 : Option Addr) (len0 cap0 : Nat) (z0 : List Int) (w : World) (w0 : IsRow .u8 w a0 len0 cap0 z0) :
    Calls Try.prog 9 #[.slice a0 len0 cap0] w (BoolPost w true) := by
  have hb0 := w0.le
  have HB := hid (Below.refl w.heap.size w)
  by_cases h1 : (1048576 : Int) < (len0 : Int)
  · go_enter Try.func9, Try.ntmps9
    go_wp2_with fail
    go_ret
    exact ⟨rfl, HB.out⟩
  have DR := hid (drawPushRecord_c a0 len0 cap0 z0 w w0)
  clear w0
  go_enter Try.func9, Try.ntmps9
  go_wp2_with fail
  refine DR.out.mono ?_
  rintro e w1 ⟨v, rsL, d, nm, tx, lv, sq, rfl, hs0, hr, hb, hf, hl30, hnm, htx⟩
  obtain ⟨fL0, fL1, fL2, rfl⟩ := hs0.form hr
  have SL := hid hs0
  clear hs0
  have HR := hid (hr.base HB.out.size)
  replace HB := hid (HB.out.trans (hb.mono HB.out.size))
  clear hb hr
  clear DR
  have FL := hid hf
  clear hf
  obtain ⟨i0, hi, hz0, hz1, hz2⟩ := info_parts Try.infoRecord
  have hy : rcellsFit (⟨nm.data.toList, lv, tx.data.toList, sq⟩ : Rec) := by unfold rcellsFit maxTxt; simp only [← Lib.size_eq]; omega
  have C1 := hid (fun (W : World) (u : Value) (h : BufIn W W.heap.size u d) => iPush h nm tx lv sq hnm htx)
  have C2 := hid (fun (W : World) (u : Value) (h : BufIn W W.heap.size u d) => sPush h nm tx lv sq hnm htx)
  have FE := hid (pushXB_fit FL.out hy)
  have FY := hid (pushXR_fit FL.out hy)
  have K1 := hid (fun (hz : pushOk d (⟨nm.data.toList, lv, tx.data.toList, sq⟩ : Rec) = true) (W : World) (u : Value) (h : BufIn W W.heap.size u (pushXB d (⟨nm.data.toList, lv, tx.data.toList, sq⟩ : Rec))) => (show Calls Try.prog 25 #[u] W (BoolPost W true) by have h9 := iValidBuffer h; rwa [push_valid hz] at h9))
  have K2 := hid (fun (hz : pushOk d (⟨nm.data.toList, lv, tx.data.toList, sq⟩ : Rec) = true) => push_all hz)
  have K3 := hid (fun (hz : pushOk d (⟨nm.data.toList, lv, tx.data.toList, sq⟩ : Rec) = true) => push_none_ hz)
  generalize pushXB d (⟨nm.data.toList, lv, tx.data.toList, sq⟩ : Rec) = E at *
  generalize pushXR d (⟨nm.data.toList, lv, tx.data.toList, sq⟩ : Rec) = Y at *
  generalize pushOk d (⟨nm.data.toList, lv, tx.data.toList, sq⟩ : Rec) = q at *
  have hb : Below w1.heap.size w1 (w1.alloc (.cells #[.int .i64 d.rm, .int .i64 d.lv, .slice fL0 fL1 fL2] 39)) := (Below.refl _ _).alloc (Nat.le_refl _) _
  have hr := Rows.box w1 #[.int .i64 d.rm, .int .i64 d.lv, .slice fL0 fL1 fL2] 39 3 rfl
  replace HR := hid (HR.out.newer hb hr HB.out.size)
  replace HB := hid (HB.out.trans (hb.mono HB.out.size))
  clear hb hr
  have dbL0 := (Rows.bc (HR.out.left) 0 rfl).1
  have dbL1 := (Rows.bc (HR.out.left) 1 rfl).1
  have dbL2 := (Rows.bc (HR.out.left) 2 rfl).1
  have tbL := (Rows.bc (HR.out.left) 0 rfl).2
  have hb : Below (w1.alloc (.cells #[.int .i64 d.rm, .int .i64 d.lv, .slice fL0 fL1 fL2] 39)).heap.size (w1.alloc (.cells #[.int .i64 d.rm, .int .i64 d.lv, .slice fL0 fL1 fL2] 39)) ((w1.alloc (.cells #[.int .i64 d.rm, .int .i64 d.lv, .slice fL0 fL1 fL2] 39)).alloc (.cells #[.string nm, .int .i64 lv, .string tx, .int .i64 sq] 33)) := (Below.refl _ _).alloc (Nat.le_refl _) _
  have hr := Rows.box (w1.alloc (.cells #[.int .i64 d.rm, .int .i64 d.lv, .slice fL0 fL1 fL2] 39)) #[.string nm, .int .i64 lv, .string tx, .int .i64 sq] 33 4 rfl
  replace HR := hid (HR.out.newer hb hr HB.out.size)
  replace HB := hid (HB.out.trans (hb.mono HB.out.size))
  clear hb hr
  clear dbL0 dbL1 dbL2 tbL
  have dbR0 := (Rows.bc (HR.out.left) 0 rfl).1
  have dbR1 := (Rows.bc (HR.out.left) 1 rfl).1
  have dbR2 := (Rows.bc (HR.out.left) 2 rfl).1
  have dbR3 := (Rows.bc (HR.out.left) 3 rfl).1
  have tbR := (Rows.bc (HR.out.left) 0 rfl).2
  have dbL0 := (Rows.bc (HR.out.right.left) 0 rfl).1
  have dbL1 := (Rows.bc (HR.out.right.left) 1 rfl).1
  have dbL2 := (Rows.bc (HR.out.right.left) 2 rfl).1
  have tbL := (Rows.bc (HR.out.right.left) 0 rfl).2
  replace HR := hid (by simpa only [World.size_alloc] using HR.out)
  clear dbR0 dbR1 dbR2 dbR3 tbR dbL0 dbL1 dbL2 tbL
  have dbR0 := (Rows.bc (HR.out.left) 0 rfl).1
  have dbR1 := (Rows.bc (HR.out.left) 1 rfl).1
  have dbR2 := (Rows.bc (HR.out.left) 2 rfl).1
  have dbR3 := (Rows.bc (HR.out.left) 3 rfl).1
  have tbR := (Rows.bc (HR.out.left) 0 rfl).2
  have dbL0 := (Rows.bc (HR.out.right.left) 0 rfl).1
  have dbL1 := (Rows.bc (HR.out.right.left) 1 rfl).1
  have dbL2 := (Rows.bc (HR.out.right.left) 2 rfl).1
  have tbL := (Rows.bc (HR.out.right.left) 0 rfl).2
  go_wp2_with fail
  refine (C1.out _ _ (SL.out.at_ (HR.out.right.right) FL.out)).mono ?_
  rintro e w2 ⟨u0, rsE, u1, rsY, rfl, hs0, hs1, hr, hb⟩
  obtain ⟨fE0, fE1, fE2, rfl⟩ := hs0.form hr.left
  have SE := hid hs0
  obtain ⟨fY0, fY1, fY2, rfl⟩ := hs1.form hr.right
  have SY := hid hs1
  clear hs0 hs1
  replace HR := hid (HR.out.newer hb hr HB.out.size)
  replace HR := hid (by simpa only [List.append_assoc] using HR.out)
  replace HB := hid (HB.out.trans (hb.mono HB.out.size))
  clear hb hr
  clear dbR0 dbR1 dbR2 dbR3 tbR dbL0 dbL1 dbL2 tbL
  have dbR0 := (Rows.bc (HR.out.right.right.left) 0 rfl).1
  have dbR1 := (Rows.bc (HR.out.right.right.left) 1 rfl).1
  have dbR2 := (Rows.bc (HR.out.right.right.left) 2 rfl).1
  have dbR3 := (Rows.bc (HR.out.right.right.left) 3 rfl).1
  have tbR := (Rows.bc (HR.out.right.right.left) 0 rfl).2
  have dbL0 := (Rows.bc (HR.out.right.right.right.left) 0 rfl).1
  have dbL1 := (Rows.bc (HR.out.right.right.right.left) 1 rfl).1
  have dbL2 := (Rows.bc (HR.out.right.right.right.left) 2 rfl).1
  have tbL := (Rows.bc (HR.out.right.right.right.left) 0 rfl).2
  have hb : Below w2.heap.size w2 (w2.alloc (.cells #[.int .i64 E.rm, .int .i64 E.lv, .slice fE0 fE1 fE2] 39)) := (Below.refl _ _).alloc (Nat.le_refl _) _
  have hr := Rows.box w2 #[.int .i64 E.rm, .int .i64 E.lv, .slice fE0 fE1 fE2] 39 3 rfl
  replace HR := hid (HR.out.newer hb hr HB.out.size)
  replace HB := hid (HB.out.trans (hb.mono HB.out.size))
  clear hb hr
  clear dbR0 dbR1 dbR2 dbR3 tbR dbL0 dbL1 dbL2 tbL
  have dbE0 := (Rows.bc (HR.out.left) 0 rfl).1
  have dbE1 := (Rows.bc (HR.out.left) 1 rfl).1
  have dbE2 := (Rows.bc (HR.out.left) 2 rfl).1
  have tbE := (Rows.bc (HR.out.left) 0 rfl).2
  have dbR0 := (Rows.bc (HR.out.right.right.right.left) 0 rfl).1
  have dbR1 := (Rows.bc (HR.out.right.right.right.left) 1 rfl).1
  have dbR2 := (Rows.bc (HR.out.right.right.right.left) 2 rfl).1
  have dbR3 := (Rows.bc (HR.out.right.right.right.left) 3 rfl).1
  have tbR := (Rows.bc (HR.out.right.right.right.left) 0 rfl).2
  have dbL0 := (Rows.bc (HR.out.right.right.right.right.left) 0 rfl).1
  have dbL1 := (Rows.bc (HR.out.right.right.right.right.left) 1 rfl).1
  have dbL2 := (Rows.bc (HR.out.right.right.right.right.left) 2 rfl).1
  have tbL := (Rows.bc (HR.out.right.right.right.right.left) 0 rfl).2
  have FW := FE
  have FV := FY
  go_wp2_with fail
  refine (C2.out _ _ (SL.out.at_ (HR.out.right.right.right.right.right) FL.out)).mono ?_
  rintro e w3 ⟨u0, rsW, u1, rsV, rfl, hs0, hs1, hr, hb⟩
  obtain ⟨fW0, fW1, fW2, rfl⟩ := hs0.form hr.left
  have SW := hid hs0
  obtain ⟨fV0, fV1, fV2, rfl⟩ := hs1.form hr.right
  have SV := hid hs1
  clear hs0 hs1
  replace HR := hid (HR.out.newer hb hr HB.out.size)
  replace HR := hid (by simpa only [List.append_assoc] using HR.out)
  replace HB := hid (HB.out.trans (hb.mono HB.out.size))
  clear hb hr
  clear dbE0 dbE1 dbE2 tbE dbR0 dbR1 dbR2 dbR3 tbR dbL0 dbL1 dbL2 tbL
  have dbE0 := (Rows.bc (HR.out.right.right.left) 0 rfl).1
  have dbE1 := (Rows.bc (HR.out.right.right.left) 1 rfl).1
  have dbE2 := (Rows.bc (HR.out.right.right.left) 2 rfl).1
  have tbE := (Rows.bc (HR.out.right.right.left) 0 rfl).2
  have dbR0 := (Rows.bc (HR.out.right.right.right.right.right.left) 0 rfl).1
  have dbR1 := (Rows.bc (HR.out.right.right.right.right.right.left) 1 rfl).1
  have dbR2 := (Rows.bc (HR.out.right.right.right.right.right.left) 2 rfl).1
  have dbR3 := (Rows.bc (HR.out.right.right.right.right.right.left) 3 rfl).1
  have tbR := (Rows.bc (HR.out.right.right.right.right.right.left) 0 rfl).2
  have dbL0 := (Rows.bc (HR.out.right.right.right.right.right.right.left) 0 rfl).1
  have dbL1 := (Rows.bc (HR.out.right.right.right.right.right.right.left) 1 rfl).1
  have dbL2 := (Rows.bc (HR.out.right.right.right.right.right.right.left) 2 rfl).1
  have tbL := (Rows.bc (HR.out.right.right.right.right.right.right.left) 0 rfl).2
  have hb : Below w3.heap.size w3 (w3.alloc (.cells #[.int .i64 E.rm, .int .i64 E.lv, .slice fW0 fW1 fW2] 39)) := (Below.refl _ _).alloc (Nat.le_refl _) _
  have hr := Rows.box w3 #[.int .i64 E.rm, .int .i64 E.lv, .slice fW0 fW1 fW2] 39 3 rfl
  replace HR := hid (HR.out.newer hb hr HB.out.size)
  replace HB := hid (HB.out.trans (hb.mono HB.out.size))
  clear hb hr
  clear dbE0 dbE1 dbE2 tbE dbR0 dbR1 dbR2 dbR3 tbR dbL0 dbL1 dbL2 tbL
  have dbW0 := (Rows.bc (HR.out.left) 0 rfl).1
  have dbW1 := (Rows.bc (HR.out.left) 1 rfl).1
  have dbW2 := (Rows.bc (HR.out.left) 2 rfl).1
  have tbW := (Rows.bc (HR.out.left) 0 rfl).2
  have dbE0 := (Rows.bc (HR.out.right.right.right.left) 0 rfl).1
  have dbE1 := (Rows.bc (HR.out.right.right.right.left) 1 rfl).1
  have dbE2 := (Rows.bc (HR.out.right.right.right.left) 2 rfl).1
  have tbE := (Rows.bc (HR.out.right.right.right.left) 0 rfl).2
  have dbR0 := (Rows.bc (HR.out.right.right.right.right.right.right.left) 0 rfl).1
  have dbR1 := (Rows.bc (HR.out.right.right.right.right.right.right.left) 1 rfl).1
  have dbR2 := (Rows.bc (HR.out.right.right.right.right.right.right.left) 2 rfl).1
  have dbR3 := (Rows.bc (HR.out.right.right.right.right.right.right.left) 3 rfl).1
  have tbR := (Rows.bc (HR.out.right.right.right.right.right.right.left) 0 rfl).2
  have dbL0 := (Rows.bc (HR.out.right.right.right.right.right.right.right.left) 0 rfl).1
  have dbL1 := (Rows.bc (HR.out.right.right.right.right.right.right.right.left) 1 rfl).1
  have dbL2 := (Rows.bc (HR.out.right.right.right.right.right.right.right.left) 2 rfl).1
  have tbL := (Rows.bc (HR.out.right.right.right.right.right.right.right.left) 0 rfl).2
  go_wp2_with fail
  refine (equalBufX_c SE.out (HR.out.right.right.right.right.left) SW.out (HR.out.right.left)).mono ?_
  rintro e w4 ⟨rfl, hb⟩
  replace HR := hid (HR.out.below hb)
  replace HB := hid (HB.out.trans (hb.mono HB.out.size))
  clear hb
  clear dbW0 dbW1 dbW2 tbW dbE0 dbE1 dbE2 tbE dbR0 dbR1 dbR2 dbR3 tbR dbL0 dbL1 dbL2 tbL
  have dbW0 := (Rows.bc (HR.out.left) 0 rfl).1
  have dbW1 := (Rows.bc (HR.out.left) 1 rfl).1
  have dbW2 := (Rows.bc (HR.out.left) 2 rfl).1
  have tbW := (Rows.bc (HR.out.left) 0 rfl).2
  have dbE0 := (Rows.bc (HR.out.right.right.right.left) 0 rfl).1
  have dbE1 := (Rows.bc (HR.out.right.right.right.left) 1 rfl).1
  have dbE2 := (Rows.bc (HR.out.right.right.right.left) 2 rfl).1
  have tbE := (Rows.bc (HR.out.right.right.right.left) 0 rfl).2
  have dbR0 := (Rows.bc (HR.out.right.right.right.right.right.right.left) 0 rfl).1
  have dbR1 := (Rows.bc (HR.out.right.right.right.right.right.right.left) 1 rfl).1
  have dbR2 := (Rows.bc (HR.out.right.right.right.right.right.right.left) 2 rfl).1
  have dbR3 := (Rows.bc (HR.out.right.right.right.right.right.right.left) 3 rfl).1
  have tbR := (Rows.bc (HR.out.right.right.right.right.right.right.left) 0 rfl).2
  have dbL0 := (Rows.bc (HR.out.right.right.right.right.right.right.right.left) 0 rfl).1
  have dbL1 := (Rows.bc (HR.out.right.right.right.right.right.right.right.left) 1 rfl).1
  have dbL2 := (Rows.bc (HR.out.right.right.right.right.right.right.right.left) 2 rfl).1
  have tbL := (Rows.bc (HR.out.right.right.right.right.right.right.right.left) 0 rfl).2
  go_wp2_with fail
  refine (equalRecsX_c SY.out (HR.out.right.right.right.right.right.left) SV.out (HR.out.right.right.left)).mono ?_
  rintro e w5 ⟨rfl, hb⟩
  replace HR := hid (HR.out.below hb)
  replace HB := hid (HB.out.trans (hb.mono HB.out.size))
  clear hb
  clear dbW0 dbW1 dbW2 tbW dbE0 dbE1 dbE2 tbE dbR0 dbR1 dbR2 dbR3 tbR dbL0 dbL1 dbL2 tbL
  have dbW0 := (Rows.bc (HR.out.left) 0 rfl).1
  have dbW1 := (Rows.bc (HR.out.left) 1 rfl).1
  have dbW2 := (Rows.bc (HR.out.left) 2 rfl).1
  have tbW := (Rows.bc (HR.out.left) 0 rfl).2
  have dbE0 := (Rows.bc (HR.out.right.right.right.left) 0 rfl).1
  have dbE1 := (Rows.bc (HR.out.right.right.right.left) 1 rfl).1
  have dbE2 := (Rows.bc (HR.out.right.right.right.left) 2 rfl).1
  have tbE := (Rows.bc (HR.out.right.right.right.left) 0 rfl).2
  have dbR0 := (Rows.bc (HR.out.right.right.right.right.right.right.left) 0 rfl).1
  have dbR1 := (Rows.bc (HR.out.right.right.right.right.right.right.left) 1 rfl).1
  have dbR2 := (Rows.bc (HR.out.right.right.right.right.right.right.left) 2 rfl).1
  have dbR3 := (Rows.bc (HR.out.right.right.right.right.right.right.left) 3 rfl).1
  have tbR := (Rows.bc (HR.out.right.right.right.right.right.right.left) 0 rfl).2
  have dbL0 := (Rows.bc (HR.out.right.right.right.right.right.right.right.left) 0 rfl).1
  have dbL1 := (Rows.bc (HR.out.right.right.right.right.right.right.right.left) 1 rfl).1
  have dbL2 := (Rows.bc (HR.out.right.right.right.right.right.right.right.left) 2 rfl).1
  have tbL := (Rows.bc (HR.out.right.right.right.right.right.right.right.left) 0 rfl).2
  have b0 : (q != q) = false := by simp
  have b1 : (q == q) = true := by simp
  cases q
  · go_wp2_with fail
    refine (equalBufX_c SE.out (HR.out.right.right.right.right.left) SW.out (HR.out.right.left)).mono ?_
    rintro e w6 ⟨rfl, hb⟩
    replace HR := hid (HR.out.below hb)
    replace HB := hid (HB.out.trans (hb.mono HB.out.size))
    clear hb
    clear dbW0 dbW1 dbW2 tbW dbE0 dbE1 dbE2 tbE dbR0 dbR1 dbR2 dbR3 tbR dbL0 dbL1 dbL2 tbL
    have dbW0 := (Rows.bc (HR.out.left) 0 rfl).1
    have dbW1 := (Rows.bc (HR.out.left) 1 rfl).1
    have dbW2 := (Rows.bc (HR.out.left) 2 rfl).1
    have tbW := (Rows.bc (HR.out.left) 0 rfl).2
    have dbE0 := (Rows.bc (HR.out.right.right.right.left) 0 rfl).1
    have dbE1 := (Rows.bc (HR.out.right.right.right.left) 1 rfl).1
    have dbE2 := (Rows.bc (HR.out.right.right.right.left) 2 rfl).1
    have tbE := (Rows.bc (HR.out.right.right.right.left) 0 rfl).2
    have dbR0 := (Rows.bc (HR.out.right.right.right.right.right.right.left) 0 rfl).1
    have dbR1 := (Rows.bc (HR.out.right.right.right.right.right.right.left) 1 rfl).1
    have dbR2 := (Rows.bc (HR.out.right.right.right.right.right.right.left) 2 rfl).1
    have dbR3 := (Rows.bc (HR.out.right.right.right.right.right.right.left) 3 rfl).1
    have tbR := (Rows.bc (HR.out.right.right.right.right.right.right.left) 0 rfl).2
    have dbL0 := (Rows.bc (HR.out.right.right.right.right.right.right.right.left) 0 rfl).1
    have dbL1 := (Rows.bc (HR.out.right.right.right.right.right.right.right.left) 1 rfl).1
    have dbL2 := (Rows.bc (HR.out.right.right.right.right.right.right.right.left) 2 rfl).1
    have tbL := (Rows.bc (HR.out.right.right.right.right.right.right.right.left) 0 rfl).2
    go_wp2_with fail
    refine (equalRecsX_c SY.out (HR.out.right.right.right.right.right.left) SV.out (HR.out.right.right.left)).mono ?_
    rintro e w7 ⟨rfl, hb⟩
    replace HR := hid (HR.out.below hb)
    replace HB := hid (HB.out.trans (hb.mono HB.out.size))
    clear hb
    clear dbW0 dbW1 dbW2 tbW dbE0 dbE1 dbE2 tbE dbR0 dbR1 dbR2 dbR3 tbR dbL0 dbL1 dbL2 tbL
    have dbW0 := (Rows.bc (HR.out.left) 0 rfl).1
    have dbW1 := (Rows.bc (HR.out.left) 1 rfl).1
    have dbW2 := (Rows.bc (HR.out.left) 2 rfl).1
    have tbW := (Rows.bc (HR.out.left) 0 rfl).2
    have dbE0 := (Rows.bc (HR.out.right.right.right.left) 0 rfl).1
    have dbE1 := (Rows.bc (HR.out.right.right.right.left) 1 rfl).1
    have dbE2 := (Rows.bc (HR.out.right.right.right.left) 2 rfl).1
    have tbE := (Rows.bc (HR.out.right.right.right.left) 0 rfl).2
    have dbR0 := (Rows.bc (HR.out.right.right.right.right.right.right.left) 0 rfl).1
    have dbR1 := (Rows.bc (HR.out.right.right.right.right.right.right.left) 1 rfl).1
    have dbR2 := (Rows.bc (HR.out.right.right.right.right.right.right.left) 2 rfl).1
    have dbR3 := (Rows.bc (HR.out.right.right.right.right.right.right.left) 3 rfl).1
    have tbR := (Rows.bc (HR.out.right.right.right.right.right.right.left) 0 rfl).2
    have dbL0 := (Rows.bc (HR.out.right.right.right.right.right.right.right.left) 0 rfl).1
    have dbL1 := (Rows.bc (HR.out.right.right.right.right.right.right.right.left) 1 rfl).1
    have dbL2 := (Rows.bc (HR.out.right.right.right.right.right.right.right.left) 2 rfl).1
    have tbL := (Rows.bc (HR.out.right.right.right.right.right.right.right.left) 0 rfl).2
    go_wp2_with fail
    go_ret
    exact ⟨rfl, HB.out⟩
  · replace K1 := hid (K1.out rfl)
    replace K2 := hid (K2.out rfl)
    replace K3 := hid (K3.out rfl)
    replace HR := hid (HR.out.sub ((List.Sublist.refl _).append (List.sublist_append_right _ _)))
    clear SW
    replace HR := hid (HR.out.sub ((List.Sublist.refl _).append (List.sublist_append_right _ _)))
    clear SV
    replace HR := hid (HR.out.sub (List.sublist_append_right _ _))
    clear dbW0 dbW1 dbW2 tbW dbE0 dbE1 dbE2 tbE dbR0 dbR1 dbR2 dbR3 tbR dbL0 dbL1 dbL2 tbL
    have dbE0 := (Rows.bc (HR.out.left) 0 rfl).1
    have dbE1 := (Rows.bc (HR.out.left) 1 rfl).1
    have dbE2 := (Rows.bc (HR.out.left) 2 rfl).1
    have tbE := (Rows.bc (HR.out.left) 0 rfl).2
    have dbR0 := (Rows.bc (HR.out.right.right.right.left) 0 rfl).1
    have dbR1 := (Rows.bc (HR.out.right.right.right.left) 1 rfl).1
    have dbR2 := (Rows.bc (HR.out.right.right.right.left) 2 rfl).1
    have dbR3 := (Rows.bc (HR.out.right.right.right.left) 3 rfl).1
    have tbR := (Rows.bc (HR.out.right.right.right.left) 0 rfl).2
    have dbL0 := (Rows.bc (HR.out.right.right.right.right.left) 0 rfl).1
    have dbL1 := (Rows.bc (HR.out.right.right.right.right.left) 1 rfl).1
    have dbL2 := (Rows.bc (HR.out.right.right.right.right.left) 2 rfl).1
    have tbL := (Rows.bc (HR.out.right.right.right.right.left) 0 rfl).2
    have hcnt := RecsR.count SL.out.recs (HR.out.right.right.right.right.right)
    subst hcnt
    have HSrc := hid (fun (W : World) (hb : Below w5.heap.size w5 W) => (RecsR.at_ SL.out.recs (Rows.below (HR.out.right.right.right.right.right) hb) FL.out).1.1)
    have SF := hid (fun (W : World) (hb : Below w5.heap.size w5 W) => And.intro ((hb.cell (p := ⟨w1.heap.size, 2, none⟩) tbL).trans dbL2) (And.intro ((hb.cell (p := ⟨w1.heap.size + 1, 0, none⟩) tbR).trans dbR0) (And.intro ((hb.cell (p := ⟨w1.heap.size + 1, 1, none⟩) tbR).trans dbR1) (And.intro ((hb.cell (p := ⟨w1.heap.size + 1, 2, none⟩) tbR).trans dbR2) ((hb.cell (p := ⟨w1.heap.size + 1, 3, none⟩) tbR).trans dbR3)))))
    have HX := hid (And.intro hi (And.intro hz0 (And.intro hz1 hz2)))
    go_wp2_with fail
    go_cut [11] from 66 to 72 (fun av wc => ∃ (A : Option Addr) (n c : Nat), av = .slice A n c ∧ wc.ownsRow w5.heap.size 33 4 (.slice A n c) (d.rc ++ [(⟨nm.data.toList, lv, tx.data.toList, sq⟩ : Rec)]).length ((d.rc ++ [(⟨nm.data.toList, lv, tx.data.toList, sq⟩ : Rec)]).flatMap rcells) ∧ Below w5.heap.size w5 wc)
    case first =>
      refine wp_region_held_drew (S := fun w' : World => w'.cell? ⟨w1.heap.size, 2, none⟩ = some (.slice fL0 d.rc.length fL2) ∧ w'.cell? ⟨w1.heap.size + 1, 0, none⟩ = some (.string nm) ∧ w'.cell? ⟨w1.heap.size + 1, 1, none⟩ = some (.int .i64 lv) ∧ w'.cell? ⟨w1.heap.size + 1, 2, none⟩ = some (.string tx) ∧ w'.cell? ⟨w1.heap.size + 1, 3, none⟩ = some (.int .i64 sq)) (by kernel_rfl) ⟨dbL2, dbR0, dbR1, dbR2, dbR3⟩ (fun hS => ?_)
      refine wpAnyH_take (i := 1) (oi := ?oi101) (v := ?v101) ?hi101 (by kernel_rfl) ?hf101 ?hr101 ?hQ101 (Or.inl ⟨?hw101, ?hy101⟩) (by assumption) ?rest101
      case hi101 => simp only [List.getElem?_toArray, List.getElem?_cons_succ, List.getElem?_cons_zero]; rfl
      case hf101 => kernel_rfl
      case hr101 => kernel_rfl
      case hw101 => rfl
      case hy101 => (intro w hSw; (try dsimp only at hSw); go_simp; all_goals (first | done | with_reducible rfl))
      case hQ101 => exact fun _ _ _ h => h
      simp only [Act.put, List.setIfInBounds_toArray, List.set_cons_zero, List.set_cons_succ]
      refine wpAnyH_take (i := 2) (oi := ?oi102) (v := ?v102) ?hi102 (by kernel_rfl) ?hf102 ?hr102 ?hQ102 (Or.inl ⟨?hw102, ?hy102⟩) (by assumption) ?rest102
      case hi102 => simp only [List.getElem?_toArray, List.getElem?_cons_succ, List.getElem?_cons_zero]; rfl
      case hf102 => kernel_rfl
      case hr102 => kernel_rfl
      case hw102 => rfl
      case hy102 => (intro w hSw; (try dsimp only at hSw); go_simp; all_goals (first | done | with_reducible rfl))
      case hQ102 => exact fun _ _ _ h => h
      simp only [Act.put, List.setIfInBounds_toArray, List.set_cons_zero, List.set_cons_succ]
      refine wpAnyH_take (i := 4) (oi := ?oi103) (v := ?v103) ?hi103 (by kernel_rfl) ?hf103 ?hr103 ?hQ103 (Or.inl ⟨?hw103, ?hy103⟩) (by assumption) ?rest103
      case hi103 => simp only [List.getElem?_toArray, List.getElem?_cons_succ, List.getElem?_cons_zero]; rfl
      case hf103 => kernel_rfl
      case hr103 => kernel_rfl
      case hw103 => rfl
      case hy103 => (intro w hSw; (try dsimp only at hSw); go_simp; all_goals (first | done | with_reducible rfl))
      case hQ103 => exact fun _ _ _ h => h
      simp only [Act.put, List.setIfInBounds_toArray, List.set_cons_zero, List.set_cons_succ]
      have HB0 := hid (Below.refl w5.heap.size w5).drew
      refine wpAnyH_ready (rs := [0, 5]) (by kernel_rfl) (by simp) ?_
      refine AllReadyH.cons (o := ?oi104) ?hi104 (fun K hK => ?stepA104) (AllReadyH.cons (o := ?oj104) ?hj104 (fun K hK => ?stepB104) AllReadyH.nil)
      case hi104 => simp only [List.getElem?_toArray, List.getElem?_cons_succ, List.getElem?_cons_zero]; rfl
      case hj104 => simp only [List.getElem?_toArray, List.getElem?_cons_succ, List.getElem?_cons_zero]; rfl
      all_goals rw [if_pos (by rfl)]
      all_goals go_simp
      · have HB1 := hid (HB0.out.alloc HB0.out.size (.cells #[] 33))
        refine hK.out _ _ (SF.out _ HB1.out) (fun _ => ?_)
        have HL := hid (World.ownsRow_lit w5.drew #[] 0 (Nat.le_refl _) (by unfold maxLen; omega) (by simp) : (w5.drew.alloc (.cells #[] 33)).ownsRow w5.heap.size 33 4 (.slice (some ⟨w5.heap.size, 0, none⟩) 0 0) 0 [])
        refine wpAnyH_ready (rs := [3, 5]) (by kernel_rfl) (by simp) ?_
        refine AllReadyH.cons (o := ?oi105) ?hi105 (fun K hK => ?stepA105) (AllReadyH.cons (o := ?oj105) ?hj105 (fun K hK => ?stepB105) AllReadyH.nil)
        case hi105 => simp only [List.getElem?_toArray, List.getElem?_cons_succ, List.getElem?_cons_zero]; rfl
        case hj105 => simp only [List.getElem?_toArray, List.getElem?_cons_succ, List.getElem?_cons_zero]; rfl
        all_goals rw [if_pos (by rfl)]
        rotate_left
        go_simp
        rotate_right
        · refine wp_appG rfl rfl w5.heap.size 33 i0 _ 4 48 Try.underlying23 hi hz0 hz1 hz2 rfl (by decide) (by rfl) HL.out (by rfl) (HSrc.out _ HB1.out) (rcells_one _) (by unfold maxLen; omega) (by omega) HB1.out.size ?_
          intro v5 wa ho5 hg5 _
          simp only [Nat.zero_add] at ho5
          obtain ⟨A5, c5, rfl, _, _⟩ := (Sl.of_own ho5).form
          have HB5 := hid (HB1.out.trans (below_of_grown hg5 HB1.out.size (own_lt HL.out)))
          refine hK.out _ _ (SF.out _ HB5.out) (fun _ => ?_)
          have HO5 := hid (ho5.alloc (.cells #[.string nm, .int .i64 lv, .string tx, .int .i64 sq] 33))
          have KX := hid (Blk.new wa #[.string nm, .int .i64 lv, .string tx, .int .i64 sq] 33)
          have HB7 := hid (HB5.out.alloc HB5.out.size (.cells #[.string nm, .int .i64 lv, .string tx, .int .i64 sq] 33))
          clear ho5 hg5
          refine wpAnyH_ready (rs := [5]) (by kernel_rfl) (by simp) ?_
          refine AllReadyH.cons (o := ?oi106) ?hi106 (fun K hK => ?step106) AllReadyH.nil
          case hi106 => simp only [List.getElem?_toArray, List.getElem?_cons_succ, List.getElem?_cons_zero]; rfl
          rw [if_pos (by rfl)]
          go_simp
          refine hK.out _ _ (SF.out _ HB7.out) (fun _ => ?_)
          refine wpAnyH_ready (rs := [6]) (by kernel_rfl) (by simp) ?_
          refine AllReadyH.cons (o := ?oi107) ?hi107 (fun K hK => ?step107) AllReadyH.nil
          case hi107 => simp only [List.getElem?_toArray, List.getElem?_cons_succ, List.getElem?_cons_zero]; rfl
          rw [if_pos (by rfl)]
          refine wp_appG rfl rfl w5.heap.size 33 i0 _ 4 48 Try.underlying23 hi hz0 hz1 hz2 rfl (by decide) (by rfl) HO5.out (by rfl) (Sl.one KX.out rfl) (rec_one nm tx lv sq) (by unfold maxLen; omega) (by omega) HB7.out.size ?_
          intro v6 wb ho6 hg6 _
          obtain ⟨A6, c6, rfl, _, _⟩ := (Sl.of_own ho6).form
          have HB6 := hid (HB7.out.trans (below_of_grown hg6 HB7.out.size (own_lt HO5.out)))
          have HO6 := hid ho6
          clear ho6 hg6
          refine hK.out _ _ (SF.out _ HB6.out) (fun _ => ?_)
          refine wpAnyH_take (i := 7) (oi := ?oi108) (v := ?v108) ?hi108 (by kernel_rfl) ?hf108 ?hr108 ?hQ108 (Or.inl ⟨?hw108, ?hy108⟩) (by assumption) ?rest108
          case hi108 => simp only [List.getElem?_toArray, List.getElem?_cons_succ, List.getElem?_cons_zero]; rfl
          case hf108 => kernel_rfl
          case hr108 => kernel_rfl
          case hw108 => rfl
          case hy108 => (intro w hSw; (try dsimp only at hSw); go_simp; all_goals (first | done | with_reducible rfl))
          case hQ108 => exact fun _ _ _ h => h
          simp only [Act.put, List.setIfInBounds_toArray, List.set_cons_zero, List.set_cons_succ]
          refine wpAnyH_done (by kernel_rfl) ?_ _
          go_wp2_with fail
          go_meet
          case rel => exact ⟨_, _, _, rfl, (by simpa [rcells, txt_data] using HO6.out), HB6.out⟩
        · have KX0 := hid (Blk.new (w5.drew.alloc (.cells #[] 33)) #[.string nm, .int .i64 lv, .string tx, .int .i64 sq] 33)
          simp only [World.size_alloc] at KX0
          have HB2 := hid (HB1.out.alloc HB1.out.size (.cells #[.string nm, .int .i64 lv, .string tx, .int .i64 sq] 33))
          have HL2 := hid (HL.out.alloc (.cells #[.string nm, .int .i64 lv, .string tx, .int .i64 sq] 33))
          refine hK.out _ _ (SF.out _ HB2.out) (fun _ => ?_)
          refine wpAnyH_ready (rs := [3]) (by kernel_rfl) (by simp) ?_
          refine AllReadyH.cons (o := ?oi109) ?hi109 (fun K hK => ?step109) AllReadyH.nil
          case hi109 => simp only [List.getElem?_toArray, List.getElem?_cons_succ, List.getElem?_cons_zero]; rfl
          rw [if_pos (by rfl)]
          refine wp_appG rfl rfl w5.heap.size 33 i0 _ 4 48 Try.underlying23 hi hz0 hz1 hz2 rfl (by decide) (by rfl) HL2.out (by rfl) (HSrc.out _ HB2.out) (rcells_one _) (by unfold maxLen; omega) (by omega) HB2.out.size ?_
          intro v5 wa ho5 hg5 _
          simp only [Nat.zero_add] at ho5
          obtain ⟨A5, c5, rfl, _, _⟩ := (Sl.of_own ho5).form
          have HB7 := hid (HB2.out.trans (below_of_grown hg5 HB2.out.size (own_lt HL2.out)))
          have HO5 := hid ho5
          have KX := hid (KX0.out.kept hg5 (by simp [Value.ownBlock]))
          clear ho5 hg5
          refine hK.out _ _ (SF.out _ HB7.out) (fun _ => ?_)
          refine wpAnyH_ready (rs := [6]) (by kernel_rfl) (by simp) ?_
          refine AllReadyH.cons (o := ?oi110) ?hi110 (fun K hK => ?step110) AllReadyH.nil
          case hi110 => simp only [List.getElem?_toArray, List.getElem?_cons_succ, List.getElem?_cons_zero]; rfl
          rw [if_pos (by rfl)]
          refine wp_appG rfl rfl w5.heap.size 33 i0 _ 4 48 Try.underlying23 hi hz0 hz1 hz2 rfl (by decide) (by rfl) HO5.out (by rfl) (Sl.one KX.out rfl) (rec_one nm tx lv sq) (by unfold maxLen; omega) (by omega) HB7.out.size ?_
          intro v6 wb ho6 hg6 _
          obtain ⟨A6, c6, rfl, _, _⟩ := (Sl.of_own ho6).form
          have HB6 := hid (HB7.out.trans (below_of_grown hg6 HB7.out.size (own_lt HO5.out)))
          have HO6 := hid ho6
          clear ho6 hg6
          refine hK.out _ _ (SF.out _ HB6.out) (fun _ => ?_)
          refine wpAnyH_take (i := 7) (oi := ?oi111) (v := ?v111) ?hi111 (by kernel_rfl) ?hf111 ?hr111 ?hQ111 (Or.inl ⟨?hw111, ?hy111⟩) (by assumption) ?rest111
          case hi111 => simp only [List.getElem?_toArray, List.getElem?_cons_succ, List.getElem?_cons_zero]; rfl
          case hf111 => kernel_rfl
          case hr111 => kernel_rfl
          case hw111 => rfl
          case hy111 => (intro w hSw; (try dsimp only at hSw); go_simp; all_goals (first | done | with_reducible rfl))
          case hQ111 => exact fun _ _ _ h => h
          simp only [Act.put, List.setIfInBounds_toArray, List.set_cons_zero, List.set_cons_succ]
          refine wpAnyH_done (by kernel_rfl) ?_ _
          go_wp2_with fail
          go_meet
          case rel => exact ⟨_, _, _, rfl, (by simpa [rcells, txt_data] using HO6.out), HB6.out⟩
      · have KX1 := hid (Blk.new w5.drew #[.string nm, .int .i64 lv, .string tx, .int .i64 sq] 33)
        have HB1 := hid (HB0.out.alloc HB0.out.size (.cells #[.string nm, .int .i64 lv, .string tx, .int .i64 sq] 33))
        refine hK.out _ _ (SF.out _ HB1.out) (fun _ => ?_)
        refine wpAnyH_ready (rs := [0]) (by kernel_rfl) (by simp) ?_
        refine AllReadyH.cons (o := ?oi112) ?hi112 (fun K hK => ?step112) AllReadyH.nil
        case hi112 => simp only [List.getElem?_toArray, List.getElem?_cons_succ, List.getElem?_cons_zero]; rfl
        rw [if_pos (by rfl)]
        go_simp
        have KX0 := hid (KX1.out.alloc (.cells #[] 33))
        have HB2 := hid (HB1.out.alloc HB1.out.size (.cells #[] 33))
        have HL2 := hid (own_base (World.ownsRow_lit (w5.drew.alloc (.cells #[.string nm, .int .i64 lv, .string tx, .int .i64 sq] 33)) #[] 0 (Nat.le_refl _) (by unfold maxLen; omega) (by simp) : ((w5.drew.alloc (.cells #[.string nm, .int .i64 lv, .string tx, .int .i64 sq] 33)).alloc (.cells #[] 33)).ownsRow (w5.drew.alloc (.cells #[.string nm, .int .i64 lv, .string tx, .int .i64 sq] 33)).heap.size 33 4 (.slice (some ⟨(w5.drew.alloc (.cells #[.string nm, .int .i64 lv, .string tx, .int .i64 sq] 33)).heap.size, 0, none⟩) 0 0) 0 []) (base' := w5.heap.size) (by simp))
        simp only [World.size_alloc] at HL2
        refine hK.out _ _ (SF.out _ HB2.out) (fun _ => ?_)
        refine wpAnyH_ready (rs := [3]) (by kernel_rfl) (by simp) ?_
        refine AllReadyH.cons (o := ?oi113) ?hi113 (fun K hK => ?step113) AllReadyH.nil
        case hi113 => simp only [List.getElem?_toArray, List.getElem?_cons_succ, List.getElem?_cons_zero]; rfl
        rw [if_pos (by rfl)]
        refine wp_appG rfl rfl w5.heap.size 33 i0 _ 4 48 Try.underlying23 hi hz0 hz1 hz2 rfl (by decide) (by rfl) HL2.out (by rfl) (HSrc.out _ HB2.out) (rcells_one _) (by unfold maxLen; omega) (by omega) HB2.out.size ?_
        intro v5 wa ho5 hg5 _
        simp only [Nat.zero_add] at ho5
        obtain ⟨A5, c5, rfl, _, _⟩ := (Sl.of_own ho5).form
        have HB7 := hid (HB2.out.trans (below_of_grown hg5 HB2.out.size (own_lt HL2.out)))
        have HO5 := hid ho5
        have KX := hid (KX0.out.kept hg5 (by simp [Value.ownBlock]))
        clear ho5 hg5
        refine hK.out _ _ (SF.out _ HB7.out) (fun _ => ?_)
        refine wpAnyH_ready (rs := [6]) (by kernel_rfl) (by simp) ?_
        refine AllReadyH.cons (o := ?oi114) ?hi114 (fun K hK => ?step114) AllReadyH.nil
        case hi114 => simp only [List.getElem?_toArray, List.getElem?_cons_succ, List.getElem?_cons_zero]; rfl
        rw [if_pos (by rfl)]
        refine wp_appG rfl rfl w5.heap.size 33 i0 _ 4 48 Try.underlying23 hi hz0 hz1 hz2 rfl (by decide) (by rfl) HO5.out (by rfl) (Sl.one KX.out rfl) (rec_one nm tx lv sq) (by unfold maxLen; omega) (by omega) HB7.out.size ?_
        intro v6 wb ho6 hg6 _
        obtain ⟨A6, c6, rfl, _, _⟩ := (Sl.of_own ho6).form
        have HB6 := hid (HB7.out.trans (below_of_grown hg6 HB7.out.size (own_lt HO5.out)))
        have HO6 := hid ho6
        clear ho6 hg6
        refine hK.out _ _ (SF.out _ HB6.out) (fun _ => ?_)
        refine wpAnyH_take (i := 7) (oi := ?oi115) (v := ?v115) ?hi115 (by kernel_rfl) ?hf115 ?hr115 ?hQ115 (Or.inl ⟨?hw115, ?hy115⟩) (by assumption) ?rest115
        case hi115 => simp only [List.getElem?_toArray, List.getElem?_cons_succ, List.getElem?_cons_zero]; rfl
        case hf115 => kernel_rfl
        case hr115 => kernel_rfl
        case hw115 => rfl
        case hy115 => (intro w hSw; (try dsimp only at hSw); go_simp; all_goals (first | done | with_reducible rfl))
        case hQ115 => exact fun _ _ _ h => h
        simp only [Act.put, List.setIfInBounds_toArray, List.set_cons_zero, List.set_cons_succ]
        refine wpAnyH_done (by kernel_rfl) ?_ _
        go_wp2_with fail
        go_meet
        case rel => exact ⟨_, _, _, rfl, (by simpa [rcells, txt_data] using HO6.out), HB6.out⟩
    case rest =>
      obtain ⟨Aa, na, ca, rfl, hoA, hbA⟩ := hcut
      rename World => w50
      clear dbE0 dbE1 dbE2 tbE dbR0 dbR1 dbR2 dbR3 tbR dbL0 dbL1 dbL2 tbL
      replace HR := hid (HR.out.newer hbA (Rows.one (r := ⟨33, 4, (d.rc ++ [(⟨nm.data.toList, lv, tx.data.toList, sq⟩ : Rec)]).length, .slice Aa na ca, (d.rc ++ [(⟨nm.data.toList, lv, tx.data.toList, sq⟩ : Rec)]).flatMap rcells⟩) hoA) HB.out.size)
      replace HB := hid (HB.out.trans (hbA.mono HB.out.size))
      clear hbA hoA SF HSrc
      have hcY := RecsR.count SY.out (HR.out.right.right.right.left)
      have hcE := RecsR.count SE.out.recs (HR.out.right.right.left)
      have hlen : Y.length + E.rc.length = d.rc.length + 1 := by rw [← List.length_append, K2.out, List.length_append]; rfl
      have hq : fY1 = 0 ∨ (((fY1 : Int) == 0) = false ∧ fE1 = 0) := by
        rcases Nat.eq_zero_or_pos fY1 with h9 | h9
        · exact .inl h9
        · refine .inr ⟨by simp; omega, ?_⟩
          rcases K3.out with h8 | h8
          · rw [h8] at hcY; simp at hcY; omega
          · rw [h8] at hcE; simpa using hcE
      have EQ := hid K2.out
      have HcY := hid hcY
      have HcE := hid hcE
      have HLen := hid hlen
      clear hcY hcE hlen
      have dbE0 := (Rows.bc (HR.out.right.left) 0 rfl).1
      have dbE1 := (Rows.bc (HR.out.right.left) 1 rfl).1
      have dbE2 := (Rows.bc (HR.out.right.left) 2 rfl).1
      have tbE := (Rows.bc (HR.out.right.left) 0 rfl).2
      have dbR0 := (Rows.bc (HR.out.right.right.right.right.left) 0 rfl).1
      have dbR1 := (Rows.bc (HR.out.right.right.right.right.left) 1 rfl).1
      have dbR2 := (Rows.bc (HR.out.right.right.right.right.left) 2 rfl).1
      have dbR3 := (Rows.bc (HR.out.right.right.right.right.left) 3 rfl).1
      have tbR := (Rows.bc (HR.out.right.right.right.right.left) 0 rfl).2
      have dbL0 := (Rows.bc (HR.out.right.right.right.right.right.left) 0 rfl).1
      have dbL1 := (Rows.bc (HR.out.right.right.right.right.right.left) 1 rfl).1
      have dbL2 := (Rows.bc (HR.out.right.right.right.right.right.left) 2 rfl).1
      have tbL := (Rows.bc (HR.out.right.right.right.right.right.left) 0 rfl).2
      rcases hq with hq | hq
      · subst hq
        have SF := hid (fun (W : World) (hb : Below w50.heap.size w50 W) => And.intro ((hb.cell (p := ⟨w2.heap.size, 0, none⟩) tbE).trans dbE0) (And.intro ((hb.cell (p := ⟨w2.heap.size, 1, none⟩) tbE).trans dbE1) ((hb.cell (p := ⟨w2.heap.size, 2, none⟩) tbE).trans dbE2)))
        have HS1 := hid (fun (W : World) (hb : Below w50.heap.size w50 W) => (by have h9 := (RecsR.at_ SY.out (Rows.below (HR.out.right.right.right.left) hb) FY.out).1.1; rw [← HcY.out] at h9; exact h9 : Sl W W.heap.size 4 0 (.slice fY0 0 fY2) (Y.flatMap rcells)))
        have HS2 := hid (fun (W : World) (hb : Below w50.heap.size w50 W) => (by have h9 := (RecsR.at_ SE.out.recs (Rows.below (HR.out.right.right.left) hb) FE.out).1.1; rw [← HcE.out] at h9; exact h9 : Sl W W.heap.size 4 fE1 (.slice fE0 fE1 fE2) (E.rc.flatMap rcells)))
        have HV := hid (fun (W : World) (hb : Below w50.heap.size w50 W) => K1.out W _ (SE.out.at_ (Rows.below (HR.out.right.right.left) hb) FE.out))
        have hle : 0 + fE1 ≤ 31 := by have := HcY.out; have := HcE.out; have := HLen.out; omega
        go_wp2_with fail
        refine wp_region_held_drew (S := fun w' : World => w'.cell? ⟨w2.heap.size, 0, none⟩ = some (.int .i64 E.rm) ∧ w'.cell? ⟨w2.heap.size, 1, none⟩ = some (.int .i64 E.lv) ∧ w'.cell? ⟨w2.heap.size, 2, none⟩ = some (.slice fE0 fE1 fE2)) (by kernel_rfl) ⟨dbE0, dbE1, dbE2⟩ (fun hS => ?_)
        refine wpAnyH_take (i := 0) (oi := ?oi116) (v := ?v116) ?hi116 (by kernel_rfl) ?hf116 ?hr116 ?hQ116 (Or.inl ⟨?hw116, ?hy116⟩) (by assumption) ?rest116
        case hi116 => simp only [List.getElem?_toArray, List.getElem?_cons_succ, List.getElem?_cons_zero]; rfl
        case hf116 => kernel_rfl
        case hr116 => kernel_rfl
        case hw116 => rfl
        case hy116 => (intro w hSw; (try dsimp only at hSw); go_simp; all_goals (first | done | with_reducible rfl))
        case hQ116 => exact fun _ _ _ h => h
        simp only [Act.put, List.setIfInBounds_toArray, List.set_cons_zero, List.set_cons_succ]
        have HB0 := hid (Below.refl w50.heap.size w50).drew
        refine wpAnyH_ready (rs := [1]) (by kernel_rfl) (by simp) ?_
        refine AllReadyH.cons (o := ?oi117) ?hi117 (fun K hK => ?step117) AllReadyH.nil
        case hi117 => simp only [List.getElem?_toArray, List.getElem?_cons_succ, List.getElem?_cons_zero]; rfl
        rw [if_pos (by rfl)]
        go_simp
        go_at_call 25
        refine (HV.out _ HB0.out).mono ?_
        rintro e wv ⟨rfl, hb⟩
        have HB1 := hid (HB0.out.trans hb)
        clear hb
        refine hK.out _ _ (SF.out _ HB1.out) (fun _ => ?_)
        refine wpAnyH_take (i := 2) (oi := ?oi118) (v := ?v118) ?hi118 (by kernel_rfl) ?hf118 ?hr118 ?hQ118 (Or.inl ⟨?hw118, ?hy118⟩) (by assumption) ?rest118
        case hi118 => simp only [List.getElem?_toArray, List.getElem?_cons_succ, List.getElem?_cons_zero]; rfl
        case hf118 => kernel_rfl
        case hr118 => kernel_rfl
        case hw118 => rfl
        case hy118 => (intro w hSw; (try dsimp only at hSw); go_simp; all_goals (first | done | with_reducible rfl))
        case hQ118 => exact fun _ _ _ h => h
        simp only [Act.put, List.setIfInBounds_toArray, List.set_cons_zero, List.set_cons_succ]
        refine wpAnyH_take (i := 4) (oi := ?oi119) (v := ?v119) ?hi119 (by kernel_rfl) ?hf119 ?hr119 ?hQ119 (Or.inl ⟨?hw119, ?hy119⟩) (by assumption) ?rest119
        case hi119 => simp only [List.getElem?_toArray, List.getElem?_cons_succ, List.getElem?_cons_zero]; rfl
        case hf119 => kernel_rfl
        case hr119 => kernel_rfl
        case hw119 => rfl
        case hy119 => (intro w hSw; (try dsimp only at hSw); go_simp; all_goals (first | done | with_reducible rfl))
        case hQ119 => exact fun _ _ _ h => h
        simp only [Act.put, List.setIfInBounds_toArray, List.set_cons_zero, List.set_cons_succ]
        refine wpAnyH_take (i := 6) (oi := ?oi120) (v := ?v120) ?hi120 (by kernel_rfl) ?hf120 ?hr120 ?hQ120 (Or.inl ⟨?hw120, ?hy120⟩) (by assumption) ?rest120
        case hi120 => simp only [List.getElem?_toArray, List.getElem?_cons_succ, List.getElem?_cons_zero]; rfl
        case hf120 => kernel_rfl
        case hr120 => kernel_rfl
        case hw120 => rfl
        case hy120 => (intro w hSw; (try dsimp only at hSw); go_simp; all_goals (first | done | with_reducible rfl))
        case hQ120 => exact fun _ _ _ h => h
        simp only [Act.put, List.setIfInBounds_toArray, List.set_cons_zero, List.set_cons_succ]
        refine wpAnyH_take (i := 7) (oi := ?oi121) (v := ?v121) ?hi121 (by kernel_rfl) ?hf121 ?hr121 ?hQ121 (Or.inl ⟨?hw121, ?hy121⟩) (by assumption) ?rest121
        case hi121 => simp only [List.getElem?_toArray, List.getElem?_cons_succ, List.getElem?_cons_zero]; rfl
        case hf121 => kernel_rfl
        case hr121 => kernel_rfl
        case hw121 => rfl
        case hy121 => (intro w hSw; (try dsimp only at hSw); go_simp; all_goals (first | done | with_reducible rfl))
        case hQ121 => exact fun _ _ _ h => h
        simp only [Act.put, List.setIfInBounds_toArray, List.set_cons_zero, List.set_cons_succ]
        refine wpAnyH_take (i := 9) (oi := ?oi122) (v := ?v122) ?hi122 (by kernel_rfl) ?hf122 ?hr122 ?hQ122 (Or.inl ⟨?hw122, ?hy122⟩) (by assumption) ?rest122
        case hi122 => simp only [List.getElem?_toArray, List.getElem?_cons_succ, List.getElem?_cons_zero]; rfl
        case hf122 => kernel_rfl
        case hr122 => kernel_rfl
        case hw122 => rfl
        case hy122 => (intro w hSw; (try dsimp only at hSw); go_simp; all_goals (first | done | with_reducible rfl))
        case hQ122 => exact fun _ _ _ h => h
        simp only [Act.put, List.setIfInBounds_toArray, List.set_cons_zero, List.set_cons_succ]
        refine wpAnyH_ready (rs := [3]) (by kernel_rfl) (by simp) ?_
        refine AllReadyH.cons (o := ?oi123) ?hi123 (fun K hK => ?step123) AllReadyH.nil
        case hi123 => simp only [List.getElem?_toArray, List.getElem?_cons_succ, List.getElem?_cons_zero]; rfl
        rw [if_pos (by rfl)]
        go_simp
        have HB2 := hid (HB1.out.alloc HB1.out.size (.cells #[] 33))
        have HL := hid (own_base (World.ownsRow_lit wv #[] 0 (Nat.le_refl _) (by unfold maxLen; omega) (by simp) : (wv.alloc (.cells #[] 33)).ownsRow wv.heap.size 33 4 (.slice (some ⟨wv.heap.size, 0, none⟩) 0 0) 0 []) (base' := w50.heap.size) HB1.out.size)
        refine hK.out _ _ (SF.out _ HB2.out) (fun _ => ?_)
        refine wpAnyH_ready (rs := [5]) (by kernel_rfl) (by simp) ?_
        refine AllReadyH.cons (o := ?oi124) ?hi124 (fun K hK => ?step124) AllReadyH.nil
        case hi124 => simp only [List.getElem?_toArray, List.getElem?_cons_succ, List.getElem?_cons_zero]; rfl
        rw [if_pos (by rfl)]
        refine wp_appG rfl rfl w50.heap.size 33 i0 _ 4 48 Try.underlying23 HX.out.1 HX.out.2.1 HX.out.2.2.1 HX.out.2.2.2 rfl (by decide) (by rfl) HL.out (by rfl) (HS1.out _ HB2.out) (rcells_one _) (by unfold maxLen; omega) (by omega) HB2.out.size ?_
        intro v5 wa ho5 hg5 _
        simp only [Nat.zero_add] at ho5
        obtain ⟨A5, c5, rfl, _, _⟩ := (Sl.of_own ho5).form
        have HB3 := hid (HB2.out.trans (below_of_grown hg5 HB2.out.size (own_lt HL.out)))
        have HO5 := hid ho5
        clear ho5 hg5
        refine hK.out _ _ (SF.out _ HB3.out) (fun _ => ?_)
        refine wpAnyH_ready (rs := [8]) (by kernel_rfl) (by simp) ?_
        refine AllReadyH.cons (o := ?oi125) ?hi125 (fun K hK => ?step125) AllReadyH.nil
        case hi125 => simp only [List.getElem?_toArray, List.getElem?_cons_succ, List.getElem?_cons_zero]; rfl
        rw [if_pos (by rfl)]
        refine wp_appG rfl rfl w50.heap.size 33 i0 _ 4 48 Try.underlying23 HX.out.1 HX.out.2.1 HX.out.2.2.1 HX.out.2.2.2 rfl (by decide) (by rfl) HO5.out (by rfl) (HS2.out _ HB3.out) (rcells_one _) (by unfold maxLen; omega) (by omega) HB3.out.size ?_
        intro v6 wb ho6 hg6 _
        simp only [Nat.add_zero, Nat.zero_add] at ho6
        obtain ⟨A6, c6, rfl, _, _⟩ := (Sl.of_own ho6).form
        have HB4 := hid (HB3.out.trans (below_of_grown hg6 HB3.out.size (own_lt HO5.out)))
        have HO6 := hid (rows_both (A := A6) (c := c6) (n := fE1) (by simpa using ho6) EQ.out (by have := HcY.out; have := HcE.out; have := HLen.out; rw [List.length_append]; show _ = d.rc.length + 1; omega))
        clear ho6 hg6
        refine hK.out _ _ (SF.out _ HB4.out) (fun _ => ?_)
        refine wpAnyH_ready (rs := [10]) (by kernel_rfl) (by simp) ?_
        refine AllReadyH.cons (o := ?oi126) ?hi126 (fun K hK => ?step126) AllReadyH.nil
        case hi126 => simp only [List.getElem?_toArray, List.getElem?_cons_succ, List.getElem?_cons_zero]; rfl
        rw [if_pos (by rfl)]
        go_simp
        go_at_call 13
        refine (equalRecsX_c rfl HO6.out rfl (Rows.below (HR.out.left) HB4.out)).mono ?_
        rintro e wc ⟨rfl, hb⟩
        have HB5 := hid (HB4.out.trans (hb.mono HB4.out.size))
        clear hb
        refine hK.out _ _ (SF.out _ HB5.out) (fun _ => ?_)
        refine wpAnyH_take (i := 11) (oi := ?oi127) (v := ?v127) ?hi127 (by kernel_rfl) ?hf127 ?hr127 ?hQ127 (Or.inl ⟨?hw127, ?hy127⟩) (by assumption) ?rest127
        case hi127 => simp only [List.getElem?_toArray, List.getElem?_cons_succ, List.getElem?_cons_zero]; rfl
        case hf127 => kernel_rfl
        case hr127 => kernel_rfl
        case hw127 => rfl
        case hy127 => (intro w hSw; (try dsimp only at hSw); go_simp; all_goals (first | done | with_reducible rfl))
        case hQ127 => exact fun _ _ _ h => h
        simp only [Act.put, List.setIfInBounds_toArray, List.set_cons_zero, List.set_cons_succ]
        refine wpAnyH_take (i := 12) (oi := ?oi128) (v := ?v128) ?hi128 (by kernel_rfl) ?hf128 ?hr128 ?hQ128 (Or.inl ⟨?hw128, ?hy128⟩) (by assumption) ?rest128
        case hi128 => simp only [List.getElem?_toArray, List.getElem?_cons_succ, List.getElem?_cons_zero]; rfl
        case hf128 => kernel_rfl
        case hr128 => kernel_rfl
        case hw128 => rfl
        case hy128 => (intro w hSw; (try dsimp only at hSw); go_simp; all_goals (first | done | with_reducible rfl))
        case hQ128 => exact fun _ _ _ h => h
        simp only [Act.put, List.setIfInBounds_toArray, List.set_cons_zero, List.set_cons_succ]
        refine wpAnyH_take (i := 13) (oi := ?oi129) (v := ?v129) ?hi129 (by kernel_rfl) ?hf129 ?hr129 ?hQ129 (Or.inl ⟨?hw129, ?hy129⟩) (by assumption) ?rest129
        case hi129 => simp only [List.getElem?_toArray, List.getElem?_cons_succ, List.getElem?_cons_zero]; rfl
        case hf129 => kernel_rfl
        case hr129 => kernel_rfl
        case hw129 => rfl
        case hy129 => (intro w hSw; (try dsimp only at hSw); go_simp; all_goals (first | done | with_reducible rfl))
        case hQ129 => exact fun _ _ _ h => h
        simp only [Act.put, List.setIfInBounds_toArray, List.set_cons_zero, List.set_cons_succ]
        refine wpAnyH_take (i := 14) (oi := ?oi130) (v := ?v130) ?hi130 (by kernel_rfl) ?hf130 ?hr130 ?hQ130 (Or.inl ⟨?hw130, ?hy130⟩) (by assumption) ?rest130
        case hi130 => simp only [List.getElem?_toArray, List.getElem?_cons_succ, List.getElem?_cons_zero]; rfl
        case hf130 => kernel_rfl
        case hr130 => kernel_rfl
        case hw130 => rfl
        case hy130 => (intro w hSw; (try dsimp only at hSw); go_simp; all_goals (first | done | with_reducible rfl))
        case hQ130 => exact fun _ _ _ h => h
        simp only [Act.put, List.setIfInBounds_toArray, List.set_cons_zero, List.set_cons_succ]
        refine wpAnyH_take (i := 15) (oi := ?oi131) (v := ?v131) ?hi131 (by kernel_rfl) ?hf131 ?hr131 ?hQ131 (Or.inl ⟨?hw131, ?hy131⟩) (by assumption) ?rest131
        case hi131 => simp only [List.getElem?_toArray, List.getElem?_cons_succ, List.getElem?_cons_zero]; rfl
        case hf131 => kernel_rfl
        case hr131 => kernel_rfl
        case hw131 => rfl
        case hy131 => (intro w hSw; (try dsimp only at hSw); go_simp; all_goals (first | done | with_reducible rfl))
        case hQ131 => exact fun _ _ _ h => h
        simp only [Act.put, List.setIfInBounds_toArray, List.set_cons_zero, List.set_cons_succ]
        refine wpAnyH_take (i := 16) (oi := ?oi132) (v := ?v132) ?hi132 (by kernel_rfl) ?hf132 ?hr132 ?hQ132 (Or.inl ⟨?hw132, ?hy132⟩) (by assumption) ?rest132
        case hi132 => simp only [List.getElem?_toArray, List.getElem?_cons_succ, List.getElem?_cons_zero]; rfl
        case hf132 => kernel_rfl
        case hr132 => kernel_rfl
        case hw132 => rfl
        case hy132 => (intro w hSw; (try dsimp only at hSw); go_simp; all_goals (first | done | with_reducible rfl))
        case hQ132 => exact fun _ _ _ h => h
        simp only [Act.put, List.setIfInBounds_toArray, List.set_cons_zero, List.set_cons_succ]
        refine wpAnyH_take (i := 17) (oi := ?oi133) (v := undef) ?hi133 (by kernel_rfl) ?hf133 ?hr133 ?hQ133 (Or.inr ⟨?hw133, rfl⟩) (by assumption) ?rest133
        case hi133 => simp only [List.getElem?_toArray, List.getElem?_cons_succ, List.getElem?_cons_zero]; rfl
        case hf133 => kernel_rfl
        case hr133 => kernel_rfl
        case hw133 => rfl
        case hQ133 => exact fun _ _ _ h => h
        simp only [Act.put, List.setIfInBounds_toArray, List.set_cons_zero, List.set_cons_succ]
        refine wpAnyH_take (i := 18) (oi := ?oi134) (v := undef) ?hi134 (by kernel_rfl) ?hf134 ?hr134 ?hQ134 (Or.inr ⟨?hw134, rfl⟩) (by assumption) ?rest134
        case hi134 => simp only [List.getElem?_toArray, List.getElem?_cons_succ, List.getElem?_cons_zero]; rfl
        case hf134 => kernel_rfl
        case hr134 => kernel_rfl
        case hw134 => rfl
        case hQ134 => exact fun _ _ _ h => h
        simp only [Act.put, List.setIfInBounds_toArray, List.set_cons_zero, List.set_cons_succ]
        refine wpAnyH_take (i := 19) (oi := ?oi135) (v := undef) ?hi135 (by kernel_rfl) ?hf135 ?hr135 ?hQ135 (Or.inr ⟨?hw135, rfl⟩) (by assumption) ?rest135
        case hi135 => simp only [List.getElem?_toArray, List.getElem?_cons_succ, List.getElem?_cons_zero]; rfl
        case hf135 => kernel_rfl
        case hr135 => kernel_rfl
        case hw135 => rfl
        case hQ135 => exact fun _ _ _ h => h
        simp only [Act.put, List.setIfInBounds_toArray, List.set_cons_zero, List.set_cons_succ]
        refine wpAnyH_take (i := 20) (oi := ?oi136) (v := undef) ?hi136 (by kernel_rfl) ?hf136 ?hr136 ?hQ136 (Or.inr ⟨?hw136, rfl⟩) (by assumption) ?rest136
        case hi136 => simp only [List.getElem?_toArray, List.getElem?_cons_succ, List.getElem?_cons_zero]; rfl
        case hf136 => kernel_rfl
        case hr136 => kernel_rfl
        case hw136 => rfl
        case hQ136 => exact fun _ _ _ h => h
        simp only [Act.put, List.setIfInBounds_toArray, List.set_cons_zero, List.set_cons_succ]
        refine wpAnyH_take (i := 21) (oi := ?oi137) (v := ?v137) ?hi137 (by kernel_rfl) ?hf137 ?hr137 ?hQ137 (Or.inl ⟨?hw137, ?hy137⟩) (by assumption) ?rest137
        case hi137 => simp only [List.getElem?_toArray, List.getElem?_cons_succ, List.getElem?_cons_zero]; rfl
        case hf137 => kernel_rfl
        case hr137 => kernel_rfl
        case hw137 => rfl
        case hy137 => (intro w hSw; (try dsimp only at hSw); go_simp; all_goals (first | done | with_reducible rfl))
        case hQ137 => exact fun _ _ _ h => h
        simp only [Act.put, List.setIfInBounds_toArray, List.set_cons_zero, List.set_cons_succ]
        refine wpAnyH_take (i := 22) (oi := ?oi138) (v := ?v138) ?hi138 (by kernel_rfl) ?hf138 ?hr138 ?hQ138 (Or.inl ⟨?hw138, ?hy138⟩) (by assumption) ?rest138
        case hi138 => simp only [List.getElem?_toArray, List.getElem?_cons_succ, List.getElem?_cons_zero]; rfl
        case hf138 => kernel_rfl
        case hr138 => kernel_rfl
        case hw138 => rfl
        case hy138 => (intro w hSw; (try dsimp only at hSw); go_simp; all_goals (first | done | with_reducible rfl))
        case hQ138 => exact fun _ _ _ h => h
        simp only [Act.put, List.setIfInBounds_toArray, List.set_cons_zero, List.set_cons_succ]
        refine wpAnyH_take (i := 23) (oi := ?oi139) (v := ?v139) ?hi139 (by kernel_rfl) ?hf139 ?hr139 ?hQ139 (Or.inl ⟨?hw139, ?hy139⟩) (by assumption) ?rest139
        case hi139 => simp only [List.getElem?_toArray, List.getElem?_cons_succ, List.getElem?_cons_zero]; rfl
        case hf139 => kernel_rfl
        case hr139 => kernel_rfl
        case hw139 => rfl
        case hy139 => (intro w hSw; (try dsimp only at hSw); go_simp; all_goals (first | done | with_reducible rfl))
        case hQ139 => exact fun _ _ _ h => h
        simp only [Act.put, List.setIfInBounds_toArray, List.set_cons_zero, List.set_cons_succ]
        refine wpAnyH_done (by kernel_rfl) ?_ _
        go_wp2_with fail
        go_ret
        exact ⟨rfl, HB.out.trans (HB5.out.mono HB.out.size)⟩
      · obtain ⟨hq1, hq2⟩ := hq
        subst hq2
        have SF := hid (fun (W : World) (hb : Below w50.heap.size w50 W) => And.intro ((hb.cell (p := ⟨w2.heap.size, 0, none⟩) tbE).trans dbE0) (And.intro ((hb.cell (p := ⟨w2.heap.size, 1, none⟩) tbE).trans dbE1) ((hb.cell (p := ⟨w2.heap.size, 2, none⟩) tbE).trans dbE2)))
        have HS1 := hid (fun (W : World) (hb : Below w50.heap.size w50 W) => (by have h9 := (RecsR.at_ SY.out (Rows.below (HR.out.right.right.right.left) hb) FY.out).1.1; rw [← HcY.out] at h9; exact h9 : Sl W W.heap.size 4 fY1 (.slice fY0 fY1 fY2) (Y.flatMap rcells)))
        have HS2 := hid (fun (W : World) (hb : Below w50.heap.size w50 W) => (by have h9 := (RecsR.at_ SE.out.recs (Rows.below (HR.out.right.right.left) hb) FE.out).1.1; rw [← HcE.out] at h9; exact h9 : Sl W W.heap.size 4 0 (.slice fE0 0 fE2) (E.rc.flatMap rcells)))
        have HV := hid (fun (W : World) (hb : Below w50.heap.size w50 W) => K1.out W _ (SE.out.at_ (Rows.below (HR.out.right.right.left) hb) FE.out))
        have hle : fY1 + 0 ≤ 31 := by have := HcY.out; have := HcE.out; have := HLen.out; omega
        go_wp2_with fail
        refine wp_region_held_drew (S := fun w' : World => w'.cell? ⟨w2.heap.size, 0, none⟩ = some (.int .i64 E.rm) ∧ w'.cell? ⟨w2.heap.size, 1, none⟩ = some (.int .i64 E.lv) ∧ w'.cell? ⟨w2.heap.size, 2, none⟩ = some (.slice fE0 0 fE2)) (by kernel_rfl) ⟨dbE0, dbE1, dbE2⟩ (fun hS => ?_)
        refine wpAnyH_take (i := 0) (oi := ?oi140) (v := ?v140) ?hi140 (by kernel_rfl) ?hf140 ?hr140 ?hQ140 (Or.inl ⟨?hw140, ?hy140⟩) (by assumption) ?rest140
        case hi140 => simp only [List.getElem?_toArray, List.getElem?_cons_succ, List.getElem?_cons_zero]; rfl
        case hf140 => kernel_rfl
        case hr140 => kernel_rfl
        case hw140 => rfl
        case hy140 => (intro w hSw; (try dsimp only at hSw); go_simp; all_goals (first | done | with_reducible rfl))
        case hQ140 => exact fun _ _ _ h => h
        simp only [Act.put, List.setIfInBounds_toArray, List.set_cons_zero, List.set_cons_succ]
        have HB0 := hid (Below.refl w50.heap.size w50).drew
        refine wpAnyH_ready (rs := [1]) (by kernel_rfl) (by simp) ?_
        refine AllReadyH.cons (o := ?oi141) ?hi141 (fun K hK => ?step141) AllReadyH.nil
        case hi141 => simp only [List.getElem?_toArray, List.getElem?_cons_succ, List.getElem?_cons_zero]; rfl
        rw [if_pos (by rfl)]
        go_simp
        go_at_call 25
        refine (HV.out _ HB0.out).mono ?_
        rintro e wv ⟨rfl, hb⟩
        have HB1 := hid (HB0.out.trans hb)
        clear hb
        refine hK.out _ _ (SF.out _ HB1.out) (fun _ => ?_)
        refine wpAnyH_take (i := 2) (oi := ?oi142) (v := ?v142) ?hi142 (by kernel_rfl) ?hf142 ?hr142 ?hQ142 (Or.inl ⟨?hw142, ?hy142⟩) (by assumption) ?rest142
        case hi142 => simp only [List.getElem?_toArray, List.getElem?_cons_succ, List.getElem?_cons_zero]; rfl
        case hf142 => kernel_rfl
        case hr142 => kernel_rfl
        case hw142 => rfl
        case hy142 => (intro w hSw; (try dsimp only at hSw); go_simp; all_goals (first | done | with_reducible rfl))
        case hQ142 => exact fun _ _ _ h => h
        simp only [Act.put, List.setIfInBounds_toArray, List.set_cons_zero, List.set_cons_succ]
        refine wpAnyH_take (i := 4) (oi := ?oi143) (v := ?v143) ?hi143 (by kernel_rfl) ?hf143 ?hr143 ?hQ143 (Or.inl ⟨?hw143, ?hy143⟩) (by assumption) ?rest143
        case hi143 => simp only [List.getElem?_toArray, List.getElem?_cons_succ, List.getElem?_cons_zero]; rfl
        case hf143 => kernel_rfl
        case hr143 => kernel_rfl
        case hw143 => rfl
        case hy143 => (intro w hSw; (try dsimp only at hSw); go_simp; all_goals (first | done | with_reducible rfl))
        case hQ143 => exact fun _ _ _ h => h
        simp only [Act.put, List.setIfInBounds_toArray, List.set_cons_zero, List.set_cons_succ]
        refine wpAnyH_take (i := 6) (oi := ?oi144) (v := ?v144) ?hi144 (by kernel_rfl) ?hf144 ?hr144 ?hQ144 (Or.inl ⟨?hw144, ?hy144⟩) (by assumption) ?rest144
        case hi144 => simp only [List.getElem?_toArray, List.getElem?_cons_succ, List.getElem?_cons_zero]; rfl
        case hf144 => kernel_rfl
        case hr144 => kernel_rfl
        case hw144 => rfl
        case hy144 => (intro w hSw; (try dsimp only at hSw); go_simp; all_goals (first | done | with_reducible rfl))
        case hQ144 => exact fun _ _ _ h => h
        simp only [Act.put, List.setIfInBounds_toArray, List.set_cons_zero, List.set_cons_succ]
        refine wpAnyH_take (i := 7) (oi := ?oi145) (v := ?v145) ?hi145 (by kernel_rfl) ?hf145 ?hr145 ?hQ145 (Or.inl ⟨?hw145, ?hy145⟩) (by assumption) ?rest145
        case hi145 => simp only [List.getElem?_toArray, List.getElem?_cons_succ, List.getElem?_cons_zero]; rfl
        case hf145 => kernel_rfl
        case hr145 => kernel_rfl
        case hw145 => rfl
        case hy145 => (intro w hSw; (try dsimp only at hSw); go_simp; all_goals (first | done | with_reducible rfl))
        case hQ145 => exact fun _ _ _ h => h
        simp only [Act.put, List.setIfInBounds_toArray, List.set_cons_zero, List.set_cons_succ]
        refine wpAnyH_take (i := 9) (oi := ?oi146) (v := ?v146) ?hi146 (by kernel_rfl) ?hf146 ?hr146 ?hQ146 (Or.inl ⟨?hw146, ?hy146⟩) (by assumption) ?rest146
        case hi146 => simp only [List.getElem?_toArray, List.getElem?_cons_succ, List.getElem?_cons_zero]; rfl
        case hf146 => kernel_rfl
        case hr146 => kernel_rfl
        case hw146 => rfl
        case hy146 => (intro w hSw; (try dsimp only at hSw); go_simp; all_goals (first | done | with_reducible rfl))
        case hQ146 => exact fun _ _ _ h => h
        simp only [Act.put, List.setIfInBounds_toArray, List.set_cons_zero, List.set_cons_succ]
        refine wpAnyH_ready (rs := [3]) (by kernel_rfl) (by simp) ?_
        refine AllReadyH.cons (o := ?oi147) ?hi147 (fun K hK => ?step147) AllReadyH.nil
        case hi147 => simp only [List.getElem?_toArray, List.getElem?_cons_succ, List.getElem?_cons_zero]; rfl
        rw [if_pos (by rfl)]
        go_simp
        have HB2 := hid (HB1.out.alloc HB1.out.size (.cells #[] 33))
        have HL := hid (own_base (World.ownsRow_lit wv #[] 0 (Nat.le_refl _) (by unfold maxLen; omega) (by simp) : (wv.alloc (.cells #[] 33)).ownsRow wv.heap.size 33 4 (.slice (some ⟨wv.heap.size, 0, none⟩) 0 0) 0 []) (base' := w50.heap.size) HB1.out.size)
        refine hK.out _ _ (SF.out _ HB2.out) (fun _ => ?_)
        refine wpAnyH_ready (rs := [5]) (by kernel_rfl) (by simp) ?_
        refine AllReadyH.cons (o := ?oi148) ?hi148 (fun K hK => ?step148) AllReadyH.nil
        case hi148 => simp only [List.getElem?_toArray, List.getElem?_cons_succ, List.getElem?_cons_zero]; rfl
        rw [if_pos (by rfl)]
        refine wp_appG rfl rfl w50.heap.size 33 i0 _ 4 48 Try.underlying23 HX.out.1 HX.out.2.1 HX.out.2.2.1 HX.out.2.2.2 rfl (by decide) (by rfl) HL.out (by rfl) (HS1.out _ HB2.out) (rcells_one _) (by unfold maxLen; omega) (by omega) HB2.out.size ?_
        intro v5 wa ho5 hg5 _
        simp only [Nat.zero_add] at ho5
        obtain ⟨A5, c5, rfl, _, _⟩ := (Sl.of_own ho5).form
        have HB3 := hid (HB2.out.trans (below_of_grown hg5 HB2.out.size (own_lt HL.out)))
        have HO5 := hid ho5
        clear ho5 hg5
        refine hK.out _ _ (SF.out _ HB3.out) (fun _ => ?_)
        refine wpAnyH_ready (rs := [8]) (by kernel_rfl) (by simp) ?_
        refine AllReadyH.cons (o := ?oi149) ?hi149 (fun K hK => ?step149) AllReadyH.nil
        case hi149 => simp only [List.getElem?_toArray, List.getElem?_cons_succ, List.getElem?_cons_zero]; rfl
        rw [if_pos (by rfl)]
        refine wp_appG rfl rfl w50.heap.size 33 i0 _ 4 48 Try.underlying23 HX.out.1 HX.out.2.1 HX.out.2.2.1 HX.out.2.2.2 rfl (by decide) (by rfl) HO5.out (by rfl) (HS2.out _ HB3.out) (rcells_one _) (by unfold maxLen; omega) (by omega) HB3.out.size ?_
        intro v6 wb ho6 hg6 _
        simp only [Nat.add_zero, Nat.zero_add] at ho6
        obtain ⟨A6, c6, rfl, _, _⟩ := (Sl.of_own ho6).form
        have HB4 := hid (HB3.out.trans (below_of_grown hg6 HB3.out.size (own_lt HO5.out)))
        have HO6 := hid (rows_both (A := A6) (c := c6) (n := fY1) (by simpa using ho6) EQ.out (by have := HcY.out; have := HcE.out; have := HLen.out; rw [List.length_append]; show _ = d.rc.length + 1; omega))
        clear ho6 hg6
        refine hK.out _ _ (SF.out _ HB4.out) (fun _ => ?_)
        refine wpAnyH_ready (rs := [10]) (by kernel_rfl) (by simp) ?_
        refine AllReadyH.cons (o := ?oi150) ?hi150 (fun K hK => ?step150) AllReadyH.nil
        case hi150 => simp only [List.getElem?_toArray, List.getElem?_cons_succ, List.getElem?_cons_zero]; rfl
        rw [if_pos (by rfl)]
        go_simp
        go_at_call 13
        refine (equalRecsX_c rfl HO6.out rfl (Rows.below (HR.out.left) HB4.out)).mono ?_
        rintro e wc ⟨rfl, hb⟩
        have HB5 := hid (HB4.out.trans (hb.mono HB4.out.size))
        clear hb
        refine hK.out _ _ (SF.out _ HB5.out) (fun _ => ?_)
        refine wpAnyH_take (i := 11) (oi := ?oi151) (v := ?v151) ?hi151 (by kernel_rfl) ?hf151 ?hr151 ?hQ151 (Or.inl ⟨?hw151, ?hy151⟩) (by assumption) ?rest151
        case hi151 => simp only [List.getElem?_toArray, List.getElem?_cons_succ, List.getElem?_cons_zero]; rfl
        case hf151 => kernel_rfl
        case hr151 => kernel_rfl
        case hw151 => rfl
        case hy151 => (intro w hSw; (try dsimp only at hSw); go_simp; all_goals (first | done | with_reducible rfl))
        case hQ151 => exact fun _ _ _ h => h
        simp only [Act.put, List.setIfInBounds_toArray, List.set_cons_zero, List.set_cons_succ]
        refine wpAnyH_take (i := 12) (oi := ?oi152) (v := ?v152) ?hi152 (by kernel_rfl) ?hf152 ?hr152 ?hQ152 (Or.inl ⟨?hw152, ?hy152⟩) (by assumption) ?rest152
        case hi152 => simp only [List.getElem?_toArray, List.getElem?_cons_succ, List.getElem?_cons_zero]; rfl
        case hf152 => kernel_rfl
        case hr152 => kernel_rfl
        case hw152 => rfl
        case hy152 => (intro w hSw; (try dsimp only at hSw); go_simp; all_goals (first | done | with_reducible rfl))
        case hQ152 => exact fun _ _ _ h => h
        simp only [Act.put, List.setIfInBounds_toArray, List.set_cons_zero, List.set_cons_succ]
        refine wpAnyH_take (i := 13) (oi := ?oi153) (v := ?v153) ?hi153 (by kernel_rfl) ?hf153 ?hr153 ?hQ153 (Or.inl ⟨?hw153, ?hy153⟩) (by assumption) ?rest153
        case hi153 => simp only [List.getElem?_toArray, List.getElem?_cons_succ, List.getElem?_cons_zero]; rfl
        case hf153 => kernel_rfl
        case hr153 => kernel_rfl
        case hw153 => rfl
        case hy153 => (intro w hSw; (try dsimp only at hSw); go_simp; all_goals (first | done | with_reducible rfl))
        case hQ153 => exact fun _ _ _ h => h
        simp only [Act.put, List.setIfInBounds_toArray, List.set_cons_zero, List.set_cons_succ]
        refine wpAnyH_take (i := 14) (oi := ?oi154) (v := ?v154) ?hi154 (by kernel_rfl) ?hf154 ?hr154 ?hQ154 (Or.inl ⟨?hw154, ?hy154⟩) (by assumption) ?rest154
        case hi154 => simp only [List.getElem?_toArray, List.getElem?_cons_succ, List.getElem?_cons_zero]; rfl
        case hf154 => kernel_rfl
        case hr154 => kernel_rfl
        case hw154 => rfl
        case hy154 => (intro w hSw; (try dsimp only at hSw); go_simp; all_goals (first | done | with_reducible rfl))
        case hQ154 => exact fun _ _ _ h => h
        simp only [Act.put, List.setIfInBounds_toArray, List.set_cons_zero, List.set_cons_succ]
        refine wpAnyH_take (i := 15) (oi := ?oi155) (v := ?v155) ?hi155 (by kernel_rfl) ?hf155 ?hr155 ?hQ155 (Or.inl ⟨?hw155, ?hy155⟩) (by assumption) ?rest155
        case hi155 => simp only [List.getElem?_toArray, List.getElem?_cons_succ, List.getElem?_cons_zero]; rfl
        case hf155 => kernel_rfl
        case hr155 => kernel_rfl
        case hw155 => rfl
        case hy155 => (intro w hSw; (try dsimp only at hSw); go_simp; all_goals (first | done | with_reducible rfl))
        case hQ155 => exact fun _ _ _ h => h
        simp only [Act.put, List.setIfInBounds_toArray, List.set_cons_zero, List.set_cons_succ]
        refine wpAnyH_take (i := 16) (oi := ?oi156) (v := ?v156) ?hi156 (by kernel_rfl) ?hf156 ?hr156 ?hQ156 (Or.inl ⟨?hw156, ?hy156⟩) (by assumption) ?rest156
        case hi156 => simp only [List.getElem?_toArray, List.getElem?_cons_succ, List.getElem?_cons_zero]; rfl
        case hf156 => kernel_rfl
        case hr156 => kernel_rfl
        case hw156 => rfl
        case hy156 => (intro w hSw; (try dsimp only at hSw); go_simp; all_goals (first | done | with_reducible rfl))
        case hQ156 => exact fun _ _ _ h => h
        simp only [Act.put, List.setIfInBounds_toArray, List.set_cons_zero, List.set_cons_succ]
        refine wpAnyH_take (i := 17) (oi := ?oi157) (v := ?v157) ?hi157 (by kernel_rfl) ?hf157 ?hr157 ?hQ157 (Or.inl ⟨?hw157, ?hy157⟩) (by assumption) ?rest157
        case hi157 => simp only [List.getElem?_toArray, List.getElem?_cons_succ, List.getElem?_cons_zero]; rfl
        case hf157 => kernel_rfl
        case hr157 => kernel_rfl
        case hw157 => rfl
        case hy157 => (intro w hSw; (try dsimp only at hSw); go_simp; all_goals (first | done | with_reducible rfl))
        case hQ157 => exact fun _ _ _ h => h
        simp only [Act.put, List.setIfInBounds_toArray, List.set_cons_zero, List.set_cons_succ]
        refine wpAnyH_take (i := 18) (oi := ?oi158) (v := ?v158) ?hi158 (by kernel_rfl) ?hf158 ?hr158 ?hQ158 (Or.inl ⟨?hw158, ?hy158⟩) (by assumption) ?rest158
        case hi158 => simp only [List.getElem?_toArray, List.getElem?_cons_succ, List.getElem?_cons_zero]; rfl
        case hf158 => kernel_rfl
        case hr158 => kernel_rfl
        case hw158 => rfl
        case hy158 => (intro w hSw; (try dsimp only at hSw); go_simp; all_goals (first | done | with_reducible rfl))
        case hQ158 => exact fun _ _ _ h => h
        simp only [Act.put, List.setIfInBounds_toArray, List.set_cons_zero, List.set_cons_succ]
        refine wpAnyH_take (i := 19) (oi := ?oi159) (v := ?v159) ?hi159 (by kernel_rfl) ?hf159 ?hr159 ?hQ159 (Or.inl ⟨?hw159, ?hy159⟩) (by assumption) ?rest159
        case hi159 => simp only [List.getElem?_toArray, List.getElem?_cons_succ, List.getElem?_cons_zero]; rfl
        case hf159 => kernel_rfl
        case hr159 => kernel_rfl
        case hw159 => rfl
        case hy159 => (intro w hSw; (try dsimp only at hSw); go_simp; all_goals (first | done | with_reducible rfl))
        case hQ159 => exact fun _ _ _ h => h
        simp only [Act.put, List.setIfInBounds_toArray, List.set_cons_zero, List.set_cons_succ]
        refine wpAnyH_take (i := 20) (oi := ?oi160) (v := ?v160) ?hi160 (by kernel_rfl) ?hf160 ?hr160 ?hQ160 (Or.inl ⟨?hw160, ?hy160⟩) (by assumption) ?rest160
        case hi160 => simp only [List.getElem?_toArray, List.getElem?_cons_succ, List.getElem?_cons_zero]; rfl
        case hf160 => kernel_rfl
        case hr160 => kernel_rfl
        case hw160 => rfl
        case hy160 => (intro w hSw; (try dsimp only at hSw); go_simp; all_goals (first | done | with_reducible rfl))
        case hQ160 => exact fun _ _ _ h => h
        simp only [Act.put, List.setIfInBounds_toArray, List.set_cons_zero, List.set_cons_succ]
        refine wpAnyH_take (i := 21) (oi := ?oi161) (v := ?v161) ?hi161 (by kernel_rfl) ?hf161 ?hr161 ?hQ161 (Or.inl ⟨?hw161, ?hy161⟩) (by assumption) ?rest161
        case hi161 => simp only [List.getElem?_toArray, List.getElem?_cons_succ, List.getElem?_cons_zero]; rfl
        case hf161 => kernel_rfl
        case hr161 => kernel_rfl
        case hw161 => rfl
        case hy161 => (intro w hSw; (try dsimp only at hSw); go_simp; all_goals (first | done | with_reducible rfl))
        case hQ161 => exact fun _ _ _ h => h
        simp only [Act.put, List.setIfInBounds_toArray, List.set_cons_zero, List.set_cons_succ]
        refine wpAnyH_take (i := 22) (oi := ?oi162) (v := ?v162) ?hi162 (by kernel_rfl) ?hf162 ?hr162 ?hQ162 (Or.inl ⟨?hw162, ?hy162⟩) (by assumption) ?rest162
        case hi162 => simp only [List.getElem?_toArray, List.getElem?_cons_succ, List.getElem?_cons_zero]; rfl
        case hf162 => kernel_rfl
        case hr162 => kernel_rfl
        case hw162 => rfl
        case hy162 => (intro w hSw; (try dsimp only at hSw); go_simp; all_goals (first | done | with_reducible rfl))
        case hQ162 => exact fun _ _ _ h => h
        simp only [Act.put, List.setIfInBounds_toArray, List.set_cons_zero, List.set_cons_succ]
        refine wpAnyH_take (i := 23) (oi := ?oi163) (v := ?v163) ?hi163 (by kernel_rfl) ?hf163 ?hr163 ?hQ163 (Or.inl ⟨?hw163, ?hy163⟩) (by assumption) ?rest163
        case hi163 => simp only [List.getElem?_toArray, List.getElem?_cons_succ, List.getElem?_cons_zero]; rfl
        case hf163 => kernel_rfl
        case hr163 => kernel_rfl
        case hw163 => rfl
        case hy163 => (intro w hSw; (try dsimp only at hSw); go_simp; all_goals (first | done | with_reducible rfl))
        case hQ163 => exact fun _ _ _ h => h
        simp only [Act.put, List.setIfInBounds_toArray, List.set_cons_zero, List.set_cons_succ]
        refine wpAnyH_done (by kernel_rfl) ?_ _
        go_wp2_with fail
        go_ret
        exact ⟨rfl, HB.out.trans (HB5.out.mono HB.out.size)⟩
end Go.Proofs.Ythgkkckbncgfmaa
