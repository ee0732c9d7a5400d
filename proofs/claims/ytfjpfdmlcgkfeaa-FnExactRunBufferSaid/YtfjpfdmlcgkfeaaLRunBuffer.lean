/-
  WALK: the law FnExactRunBuffer. By gen_any.py.
-/
import Derived.Deep.Cut
import Derived.Test.YtfjpfdmlcgkfeaaRB2
import Derived.Test.YtfjpfdmlcgkfeaaApp
import Derived.Test.YtfjpfdmlcgkfeaaKBuf
import Derived.Test.YtfjpfdmlcgkfeaaKRecs
import Derived.Test.YtfjpfdmlcgkfeaaKRecss
namespace Go.Proofs.Ytfjpfdmlcgkfeaa
open Go.RowKit Nm
set_option linter.unusedSimpArgs false
set_option linter.unusedVariables false

set_option maxHeartbeats 16000000 in
set_option maxRecDepth 100000 in
theorem walk_FnExactRunBuffer (A0 : Option Addr) (n0 c0 : Nat) (d0 : Buf) (A1 : Option Addr) (n1 c1 : Nat) (d1 : List Rec) (w : World) (t0 : BufRaw w w.heap.size A0 n0 c0 d0) (t1 : RecsRaw w w.heap.size A1 n1 c1 d1) :
    Calls Try.prog 3 #[.agg #[.int .i64 d0.rm, .int .i64 d0.lv, .slice A0 n0 c0], .slice A1 n1 c1] w (BoolPost w true) := by
  have T0 := hid t0
  clear t0
  have T1 := hid t1
  clear t1
  have HB := hid (Below.refl w.heap.size w)
  have hr : Rows (w.alloc (.cells #[.int .i64 d0.rm, .int .i64 d0.lv, .slice A0 n0 c0] 24)) w.heap.size [bxRow 24 3 (w.heap.size) [.int .i64 d0.rm, .int .i64 d0.lv, .slice A0 n0 c0]] := by have h := Rows.box w #[.int .i64 d0.rm, .int .i64 d0.lv, .slice A0 n0 c0] 24 3 rfl; simpa using h
  have hb : Below w.heap.size w (w.alloc (.cells #[.int .i64 d0.rm, .int .i64 d0.lv, .slice A0 n0 c0] 24)) := (Below.refl _ _).alloc (Nat.le_refl _) _
  have HR := hid hr
  replace HB := hid (HB.out.trans (hb.mono HB.out.size))
  clear hb hr
  have da00 := (Rows.bc (HR.out) 0 rfl).1
  have da01 := (Rows.bc (HR.out) 1 rfl).1
  have da02 := (Rows.bc (HR.out) 2 rfl).1
  have ta0 := (Rows.bc (HR.out) 0 rfl).2
  go_enter Try.func3, Try.ntmps3
  go_wp2_with fail
  refine (szBufferY_c A0 n0 c0 d0 w.heap.size _ _ (T0.out.below HB.out (Nat.le_refl _)) HB.out.size (by omega) (by omega)).mono ?_
  rintro e w1 ⟨r0, rfl, hb, hr⟩
  replace HR := hid (HR.out.below hb)
  replace HB := hid (HB.out.trans (hb.mono HB.out.size))
  clear hb
  clear da00 da01 da02 ta0
  have da00 := (Rows.bc (HR.out) 0 rfl).1
  have da01 := (Rows.bc (HR.out) 1 rfl).1
  have da02 := (Rows.bc (HR.out) 2 rfl).1
  have ta0 := (Rows.bc (HR.out) 0 rfl).2
  rcases hr with hr | ⟨hr0, hr1, hfit⟩
  · go_wp2_with fail
    go_ret
    exact ⟨rfl, HB.out⟩
  have F0 := hid hfit
  clear hfit
  go_wp2_with fail
  refine (szRecsY_c A1 n1 c1 d1 w.heap.size _ _ (T1.out.below HB.out (Nat.le_refl _)) HB.out.size (by omega) (by omega)).mono ?_
  rintro e w2 ⟨r1, rfl, hb, hr⟩
  replace HR := hid (HR.out.below hb)
  replace HB := hid (HB.out.trans (hb.mono HB.out.size))
  clear hb
  clear da00 da01 da02 ta0
  have da00 := (Rows.bc (HR.out) 0 rfl).1
  have da01 := (Rows.bc (HR.out) 1 rfl).1
  have da02 := (Rows.bc (HR.out) 2 rfl).1
  have ta0 := (Rows.bc (HR.out) 0 rfl).2
  rcases hr with hr | ⟨hr0, hr1, hfit⟩
  · go_wp2_with fail
    go_ret
    exact ⟨rfl, HB.out⟩
  have F1 := hid hfit
  clear hfit
  have cS : ∀ (W : World) (v0 : Value) (h0 : BufIn W W.heap.size v0 d0) (v1 : Value) (h1 : RecsIn W W.heap.size v1 d1), Calls Try.prog 7 #[v0, v1] W (fun e w2 => ∃ (u0 : Value) (rs0 : List Row), ∃ (u1 : Value) (rs1 : List Row), e = .returned (.tuple #[u0, u1, .bool (rbOk d0 d1)]) ∧ BufR rs0 u0 (rbB d0 d1) ∧ RecssR rs1 u1 (rbO d0 d1) ∧ Rows w2 W.heap.size (rs0 ++ (rs1)) ∧ Below W.heap.size W w2) := fun W v0 h0 v1 h1 => specRunBuffer_c h0 h1 (Nat.le_refl _)
  have cI : ∀ (W : World) (v0 : Value) (h0 : BufIn W W.heap.size v0 d0) (v1 : Value) (h1 : RecsIn W W.heap.size v1 d1), Calls Try.prog 10 #[v0, v1] W (fun e w2 => ∃ (u0 : Value) (rs0 : List Row), ∃ (u1 : Value) (rs1 : List Row), e = .returned (.tuple #[u0, u1, .bool (rbOk d0 d1)]) ∧ BufR rs0 u0 (rbB d0 d1) ∧ RecssR rs1 u1 (rbO d0 d1) ∧ Rows w2 W.heap.size (rs0 ++ (rs1)) ∧ Below W.heap.size W w2) := fun W v0 h0 v1 h1 => implRunBuffer_c h0 h1 (Nat.le_refl _)
  have DX0 : BufFit (rbB d0 d1) := rbB_fit F0.out F1.out
  generalize rbB d0 d1 = X0 at cS cI DX0
  replace DX0 := hid DX0
  have DX1 : RecssFit (rbO d0 d1) := rbO_fit F0.out F1.out
  generalize rbO d0 d1 = X1 at cS cI DX1
  replace DX1 := hid DX1
  generalize rbOk d0 d1 = X2 at cS cI
  have hX2 : (X2 == X2) = true := by simp
  replace cS := hid cS
  replace cI := hid cI
  go_wp2_with fail
  refine (toBufferY_c A0 n0 c0 d0 w.heap.size _ (T0.out.below HB.out (Nat.le_refl _)) HB.out.size F0.out).mono ?_
  rintro e w3 ⟨v, rss0, rfl, hs, hr, hb⟩
  obtain ⟨fs00, fs01, fs02, rfl⟩ := hs.form hr
  have Ss0 := hid hs
  clear hs
  replace HR := hid (HR.out.newer hb hr HB.out.size)
  replace HB := hid (HB.out.trans (hb.mono HB.out.size))
  clear hb hr
  clear da00 da01 da02 ta0
  have da00 := (Rows.bc (HR.out.right) 0 rfl).1
  have da01 := (Rows.bc (HR.out.right) 1 rfl).1
  have da02 := (Rows.bc (HR.out.right) 2 rfl).1
  have ta0 := (Rows.bc (HR.out.right) 0 rfl).2
  go_wp2_with fail
  refine (toRecsY_c A1 n1 c1 d1 w.heap.size _ (T1.out.below HB.out (Nat.le_refl _)) HB.out.size F1.out).mono ?_
  rintro e w4 ⟨v, rss1, rfl, hs, hr, hb⟩
  obtain ⟨fs10, fs11, fs12, rfl⟩ := hs.form hr
  have Ss1 := hid hs
  clear hs
  replace HR := hid (HR.out.newer hb hr HB.out.size)
  replace HB := hid (HB.out.trans (hb.mono HB.out.size))
  clear hb hr
  clear da00 da01 da02 ta0
  have da00 := (Rows.bc (HR.out.right.right) 0 rfl).1
  have da01 := (Rows.bc (HR.out.right.right) 1 rfl).1
  have da02 := (Rows.bc (HR.out.right.right) 2 rfl).1
  have ta0 := (Rows.bc (HR.out.right.right) 0 rfl).2
  go_wp2_with fail
  refine (cS.out _ _ (Ss0.out.at_ (HR.out.right.left) F0.out) _ (Ss1.out.at_ (HR.out.left) F1.out)).mono ?_
  rintro e w5 ⟨v0, rsW0, v1, rsW1, rfl, hs0, hs1, hr, hb⟩
  obtain ⟨fW00, fW01, fW02, rfl⟩ := hs0.form hr.left
  have SW0 := hid hs0
  obtain ⟨fW10, fW11, fW12, rfl⟩ := hs1.form hr.right
  have SW1 := hid hs1
  clear hs0 hs1
  replace HR := hid (HR.out.newer hb hr HB.out.size)
  replace HR := hid (by simpa only [List.append_assoc] using HR.out)
  replace HB := hid (HB.out.trans (hb.mono HB.out.size))
  clear hb hr
  clear da00 da01 da02 ta0
  have da00 := (Rows.bc (HR.out.right.right.right.right) 0 rfl).1
  have da01 := (Rows.bc (HR.out.right.right.right.right) 1 rfl).1
  have da02 := (Rows.bc (HR.out.right.right.right.right) 2 rfl).1
  have ta0 := (Rows.bc (HR.out.right.right.right.right) 0 rfl).2
  have hb : Below w5.heap.size w5 (w5.alloc (.cells #[.int .i64 X0.rm, .int .i64 X0.lv, .slice fW00 fW01 fW02] 29)) := (Below.refl _ _).alloc (Nat.le_refl _) _
  have hr := Rows.box w5 #[.int .i64 X0.rm, .int .i64 X0.lv, .slice fW00 fW01 fW02] 29 3 rfl
  replace HR := hid (HR.out.newer hb hr HB.out.size)
  replace HB := hid (HB.out.trans (hb.mono HB.out.size))
  clear hb hr
  clear da00 da01 da02 ta0
  have dbW00 := (Rows.bc (HR.out.left) 0 rfl).1
  have dbW01 := (Rows.bc (HR.out.left) 1 rfl).1
  have dbW02 := (Rows.bc (HR.out.left) 2 rfl).1
  have tbW0 := (Rows.bc (HR.out.left) 0 rfl).2
  have da00 := (Rows.bc (HR.out.right.right.right.right.right) 0 rfl).1
  have da01 := (Rows.bc (HR.out.right.right.right.right.right) 1 rfl).1
  have da02 := (Rows.bc (HR.out.right.right.right.right.right) 2 rfl).1
  have ta0 := (Rows.bc (HR.out.right.right.right.right.right) 0 rfl).2
  replace HR := hid (HR.out.sub ((List.Sublist.refl _).append ((List.Sublist.refl _).append ((List.Sublist.refl _).append ((List.Sublist.refl _).append (List.sublist_append_right _ _))))))
  clear Ss0
  replace HR := hid (HR.out.sub ((List.Sublist.refl _).append ((List.Sublist.refl _).append ((List.Sublist.refl _).append (List.sublist_append_right _ _)))))
  clear Ss1
  go_wp2_with fail
  refine (toBufferY_c A0 n0 c0 d0 w.heap.size _ (T0.out.below HB.out (Nat.le_refl _)) HB.out.size F0.out).mono ?_
  rintro e w6 ⟨v, rsx0, rfl, hs, hr, hb⟩
  obtain ⟨fx00, fx01, fx02, rfl⟩ := hs.form hr
  have Sx0 := hid hs
  clear hs
  replace HR := hid (HR.out.newer hb hr HB.out.size)
  replace HB := hid (HB.out.trans (hb.mono HB.out.size))
  clear hb hr
  clear dbW00 dbW01 dbW02 tbW0 da00 da01 da02 ta0
  have dbW00 := (Rows.bc (HR.out.right.left) 0 rfl).1
  have dbW01 := (Rows.bc (HR.out.right.left) 1 rfl).1
  have dbW02 := (Rows.bc (HR.out.right.left) 2 rfl).1
  have tbW0 := (Rows.bc (HR.out.right.left) 0 rfl).2
  have da00 := (Rows.bc (HR.out.right.right.right.right) 0 rfl).1
  have da01 := (Rows.bc (HR.out.right.right.right.right) 1 rfl).1
  have da02 := (Rows.bc (HR.out.right.right.right.right) 2 rfl).1
  have ta0 := (Rows.bc (HR.out.right.right.right.right) 0 rfl).2
  have hb : Below w6.heap.size w6 (w6.alloc (.cells #[.int .i64 d0.rm, .int .i64 d0.lv, .slice fx00 fx01 fx02] 29)) := (Below.refl _ _).alloc (Nat.le_refl _) _
  have hr := Rows.box w6 #[.int .i64 d0.rm, .int .i64 d0.lv, .slice fx00 fx01 fx02] 29 3 rfl
  replace HR := hid (HR.out.newer hb hr HB.out.size)
  replace HB := hid (HB.out.trans (hb.mono HB.out.size))
  clear hb hr
  clear dbW00 dbW01 dbW02 tbW0 da00 da01 da02 ta0
  have dbx00 := (Rows.bc (HR.out.left) 0 rfl).1
  have dbx01 := (Rows.bc (HR.out.left) 1 rfl).1
  have dbx02 := (Rows.bc (HR.out.left) 2 rfl).1
  have tbx0 := (Rows.bc (HR.out.left) 0 rfl).2
  have dbW00 := (Rows.bc (HR.out.right.right.left) 0 rfl).1
  have dbW01 := (Rows.bc (HR.out.right.right.left) 1 rfl).1
  have dbW02 := (Rows.bc (HR.out.right.right.left) 2 rfl).1
  have tbW0 := (Rows.bc (HR.out.right.right.left) 0 rfl).2
  have da00 := (Rows.bc (HR.out.right.right.right.right.right) 0 rfl).1
  have da01 := (Rows.bc (HR.out.right.right.right.right.right) 1 rfl).1
  have da02 := (Rows.bc (HR.out.right.right.right.right.right) 2 rfl).1
  have ta0 := (Rows.bc (HR.out.right.right.right.right.right) 0 rfl).2
  go_wp2_with fail
  refine (toRecsY_c A1 n1 c1 d1 w.heap.size _ (T1.out.below HB.out (Nat.le_refl _)) HB.out.size F1.out).mono ?_
  rintro e w7 ⟨v, rsx1, rfl, hs, hr, hb⟩
  obtain ⟨fx10, fx11, fx12, rfl⟩ := hs.form hr
  have Sx1 := hid hs
  clear hs
  replace HR := hid (HR.out.newer hb hr HB.out.size)
  replace HB := hid (HB.out.trans (hb.mono HB.out.size))
  clear hb hr
  clear dbx00 dbx01 dbx02 tbx0 dbW00 dbW01 dbW02 tbW0 da00 da01 da02 ta0
  have dbx00 := (Rows.bc (HR.out.right.left) 0 rfl).1
  have dbx01 := (Rows.bc (HR.out.right.left) 1 rfl).1
  have dbx02 := (Rows.bc (HR.out.right.left) 2 rfl).1
  have tbx0 := (Rows.bc (HR.out.right.left) 0 rfl).2
  have dbW00 := (Rows.bc (HR.out.right.right.right.left) 0 rfl).1
  have dbW01 := (Rows.bc (HR.out.right.right.right.left) 1 rfl).1
  have dbW02 := (Rows.bc (HR.out.right.right.right.left) 2 rfl).1
  have tbW0 := (Rows.bc (HR.out.right.right.right.left) 0 rfl).2
  have da00 := (Rows.bc (HR.out.right.right.right.right.right.right) 0 rfl).1
  have da01 := (Rows.bc (HR.out.right.right.right.right.right.right) 1 rfl).1
  have da02 := (Rows.bc (HR.out.right.right.right.right.right.right) 2 rfl).1
  have ta0 := (Rows.bc (HR.out.right.right.right.right.right.right) 0 rfl).2
  go_wp2_with fail
  refine (cI.out _ _ (Sx0.out.at_ (HR.out.right.right.left) F0.out) _ (Sx1.out.at_ (HR.out.left) F1.out)).mono ?_
  rintro e w8 ⟨v0, rsG0, v1, rsG1, rfl, hs0, hs1, hr, hb⟩
  obtain ⟨fG00, fG01, fG02, rfl⟩ := hs0.form hr.left
  have SG0 := hid hs0
  obtain ⟨fG10, fG11, fG12, rfl⟩ := hs1.form hr.right
  have SG1 := hid hs1
  clear hs0 hs1
  replace HR := hid (HR.out.newer hb hr HB.out.size)
  replace HR := hid (by simpa only [List.append_assoc] using HR.out)
  replace HB := hid (HB.out.trans (hb.mono HB.out.size))
  clear hb hr
  clear dbx00 dbx01 dbx02 tbx0 dbW00 dbW01 dbW02 tbW0 da00 da01 da02 ta0
  have dbx00 := (Rows.bc (HR.out.right.right.right.left) 0 rfl).1
  have dbx01 := (Rows.bc (HR.out.right.right.right.left) 1 rfl).1
  have dbx02 := (Rows.bc (HR.out.right.right.right.left) 2 rfl).1
  have tbx0 := (Rows.bc (HR.out.right.right.right.left) 0 rfl).2
  have dbW00 := (Rows.bc (HR.out.right.right.right.right.right.left) 0 rfl).1
  have dbW01 := (Rows.bc (HR.out.right.right.right.right.right.left) 1 rfl).1
  have dbW02 := (Rows.bc (HR.out.right.right.right.right.right.left) 2 rfl).1
  have tbW0 := (Rows.bc (HR.out.right.right.right.right.right.left) 0 rfl).2
  have da00 := (Rows.bc (HR.out.right.right.right.right.right.right.right.right) 0 rfl).1
  have da01 := (Rows.bc (HR.out.right.right.right.right.right.right.right.right) 1 rfl).1
  have da02 := (Rows.bc (HR.out.right.right.right.right.right.right.right.right) 2 rfl).1
  have ta0 := (Rows.bc (HR.out.right.right.right.right.right.right.right.right) 0 rfl).2
  have hb : Below w8.heap.size w8 (w8.alloc (.cells #[.int .i64 X0.rm, .int .i64 X0.lv, .slice fG00 fG01 fG02] 29)) := (Below.refl _ _).alloc (Nat.le_refl _) _
  have hr := Rows.box w8 #[.int .i64 X0.rm, .int .i64 X0.lv, .slice fG00 fG01 fG02] 29 3 rfl
  replace HR := hid (HR.out.newer hb hr HB.out.size)
  replace HB := hid (HB.out.trans (hb.mono HB.out.size))
  clear hb hr
  clear dbx00 dbx01 dbx02 tbx0 dbW00 dbW01 dbW02 tbW0 da00 da01 da02 ta0
  have dbG00 := (Rows.bc (HR.out.left) 0 rfl).1
  have dbG01 := (Rows.bc (HR.out.left) 1 rfl).1
  have dbG02 := (Rows.bc (HR.out.left) 2 rfl).1
  have tbG0 := (Rows.bc (HR.out.left) 0 rfl).2
  have dbx00 := (Rows.bc (HR.out.right.right.right.right.left) 0 rfl).1
  have dbx01 := (Rows.bc (HR.out.right.right.right.right.left) 1 rfl).1
  have dbx02 := (Rows.bc (HR.out.right.right.right.right.left) 2 rfl).1
  have tbx0 := (Rows.bc (HR.out.right.right.right.right.left) 0 rfl).2
  have dbW00 := (Rows.bc (HR.out.right.right.right.right.right.right.left) 0 rfl).1
  have dbW01 := (Rows.bc (HR.out.right.right.right.right.right.right.left) 1 rfl).1
  have dbW02 := (Rows.bc (HR.out.right.right.right.right.right.right.left) 2 rfl).1
  have tbW0 := (Rows.bc (HR.out.right.right.right.right.right.right.left) 0 rfl).2
  have da00 := (Rows.bc (HR.out.right.right.right.right.right.right.right.right.right) 0 rfl).1
  have da01 := (Rows.bc (HR.out.right.right.right.right.right.right.right.right.right) 1 rfl).1
  have da02 := (Rows.bc (HR.out.right.right.right.right.right.right.right.right.right) 2 rfl).1
  have ta0 := (Rows.bc (HR.out.right.right.right.right.right.right.right.right.right) 0 rfl).2
  go_wp2_with fail
  refine (eqBufferX_c SG0.out (HR.out.right.left) SW0.out (HR.out.right.right.right.right.right.right.right.left)).mono ?_
  rintro e w9 ⟨rfl, hb⟩
  replace HR := hid (HR.out.below hb)
  replace HB := hid (HB.out.trans (hb.mono HB.out.size))
  clear hb
  clear dbG00 dbG01 dbG02 tbG0 dbx00 dbx01 dbx02 tbx0 dbW00 dbW01 dbW02 tbW0 da00 da01 da02 ta0
  have dbG00 := (Rows.bc (HR.out.left) 0 rfl).1
  have dbG01 := (Rows.bc (HR.out.left) 1 rfl).1
  have dbG02 := (Rows.bc (HR.out.left) 2 rfl).1
  have tbG0 := (Rows.bc (HR.out.left) 0 rfl).2
  have dbx00 := (Rows.bc (HR.out.right.right.right.right.left) 0 rfl).1
  have dbx01 := (Rows.bc (HR.out.right.right.right.right.left) 1 rfl).1
  have dbx02 := (Rows.bc (HR.out.right.right.right.right.left) 2 rfl).1
  have tbx0 := (Rows.bc (HR.out.right.right.right.right.left) 0 rfl).2
  have dbW00 := (Rows.bc (HR.out.right.right.right.right.right.right.left) 0 rfl).1
  have dbW01 := (Rows.bc (HR.out.right.right.right.right.right.right.left) 1 rfl).1
  have dbW02 := (Rows.bc (HR.out.right.right.right.right.right.right.left) 2 rfl).1
  have tbW0 := (Rows.bc (HR.out.right.right.right.right.right.right.left) 0 rfl).2
  have da00 := (Rows.bc (HR.out.right.right.right.right.right.right.right.right.right) 0 rfl).1
  have da01 := (Rows.bc (HR.out.right.right.right.right.right.right.right.right.right) 1 rfl).1
  have da02 := (Rows.bc (HR.out.right.right.right.right.right.right.right.right.right) 2 rfl).1
  have ta0 := (Rows.bc (HR.out.right.right.right.right.right.right.right.right.right) 0 rfl).2
  go_wp2_with fail
  refine (eqRecssX_c SG1.out (HR.out.right.right.left) SW1.out (HR.out.right.right.right.right.right.right.right.right.left)).mono ?_
  rintro e w10 ⟨rfl, hb⟩
  replace HR := hid (HR.out.below hb)
  replace HB := hid (HB.out.trans (hb.mono HB.out.size))
  clear hb
  clear dbG00 dbG01 dbG02 tbG0 dbx00 dbx01 dbx02 tbx0 dbW00 dbW01 dbW02 tbW0 da00 da01 da02 ta0
  have dbG00 := (Rows.bc (HR.out.left) 0 rfl).1
  have dbG01 := (Rows.bc (HR.out.left) 1 rfl).1
  have dbG02 := (Rows.bc (HR.out.left) 2 rfl).1
  have tbG0 := (Rows.bc (HR.out.left) 0 rfl).2
  have dbx00 := (Rows.bc (HR.out.right.right.right.right.left) 0 rfl).1
  have dbx01 := (Rows.bc (HR.out.right.right.right.right.left) 1 rfl).1
  have dbx02 := (Rows.bc (HR.out.right.right.right.right.left) 2 rfl).1
  have tbx0 := (Rows.bc (HR.out.right.right.right.right.left) 0 rfl).2
  have dbW00 := (Rows.bc (HR.out.right.right.right.right.right.right.left) 0 rfl).1
  have dbW01 := (Rows.bc (HR.out.right.right.right.right.right.right.left) 1 rfl).1
  have dbW02 := (Rows.bc (HR.out.right.right.right.right.right.right.left) 2 rfl).1
  have tbW0 := (Rows.bc (HR.out.right.right.right.right.right.right.left) 0 rfl).2
  have da00 := (Rows.bc (HR.out.right.right.right.right.right.right.right.right.right) 0 rfl).1
  have da01 := (Rows.bc (HR.out.right.right.right.right.right.right.right.right.right) 1 rfl).1
  have da02 := (Rows.bc (HR.out.right.right.right.right.right.right.right.right.right) 2 rfl).1
  have ta0 := (Rows.bc (HR.out.right.right.right.right.right.right.right.right.right) 0 rfl).2
  go_wp2_with fail
  refine wp_region_held_drew (S := (fun w' : World => w'.cell? ⟨w6.heap.size, 0, none⟩ = some (.int .i64 d0.rm) ∧ w'.cell? ⟨w6.heap.size, 1, none⟩ = some (.int .i64 d0.lv) ∧ w'.cell? ⟨w6.heap.size, 2, none⟩ = some (.slice fx00 fx01 fx02) ∧ w'.cell? ⟨w.heap.size, 0, none⟩ = some (.int .i64 d0.rm) ∧ w'.cell? ⟨w.heap.size, 1, none⟩ = some (.int .i64 d0.lv) ∧ w'.cell? ⟨w.heap.size, 2, none⟩ = some (.slice A0 n0 c0))) (by kernel_rfl) ⟨dbx00, dbx01, dbx02, da00, da01, da02⟩ (fun hS => ?_)
  refine wpAnyH_take (i := 0) (oi := ?oi101) (v := ?v101) ?hi101 (by kernel_rfl) ?hf101 ?hr101 ?hQ101 (Or.inl ⟨?hw101, ?hy101⟩) (by assumption) ?rest101
  case hi101 => simp only [List.getElem?_toArray, List.getElem?_cons_succ, List.getElem?_cons_zero]; rfl
  case hf101 => kernel_rfl
  case hr101 => kernel_rfl
  case hw101 => rfl
  case hy101 => (intro w hSw; (try dsimp only at hSw); go_simp; all_goals (first | done | with_reducible rfl))
  case hQ101 => exact fun _ _ _ h => h
  simp only [Act.put, List.setIfInBounds_toArray, List.set_cons_zero, List.set_cons_succ]
  refine wpAnyH_take (i := 1) (oi := ?oi102) (v := ?v102) ?hi102 (by kernel_rfl) ?hf102 ?hr102 ?hQ102 (Or.inl ⟨?hw102, ?hy102⟩) (by assumption) ?rest102
  case hi102 => simp only [List.getElem?_toArray, List.getElem?_cons_succ, List.getElem?_cons_zero]; rfl
  case hf102 => kernel_rfl
  case hr102 => kernel_rfl
  case hw102 => rfl
  case hy102 => (intro w hSw; (try dsimp only at hSw); go_simp; all_goals (first | done | with_reducible rfl))
  case hQ102 => exact fun _ _ _ h => h
  simp only [Act.put, List.setIfInBounds_toArray, List.set_cons_zero, List.set_cons_succ]
  replace HR := hid (HR.out.below ((Below.refl w10.heap.size w10).drew))
  replace HB := hid HB.out.drew
  clear dbG00 dbG01 dbG02 tbG0 dbx00 dbx01 dbx02 tbx0 dbW00 dbW01 dbW02 tbW0 da00 da01 da02 ta0
  have dbG00 := (Rows.bc (HR.out.left) 0 rfl).1
  have dbG01 := (Rows.bc (HR.out.left) 1 rfl).1
  have dbG02 := (Rows.bc (HR.out.left) 2 rfl).1
  have tbG0 := (Rows.bc (HR.out.left) 0 rfl).2
  have dbx00 := (Rows.bc (HR.out.right.right.right.right.left) 0 rfl).1
  have dbx01 := (Rows.bc (HR.out.right.right.right.right.left) 1 rfl).1
  have dbx02 := (Rows.bc (HR.out.right.right.right.right.left) 2 rfl).1
  have tbx0 := (Rows.bc (HR.out.right.right.right.right.left) 0 rfl).2
  have dbW00 := (Rows.bc (HR.out.right.right.right.right.right.right.left) 0 rfl).1
  have dbW01 := (Rows.bc (HR.out.right.right.right.right.right.right.left) 1 rfl).1
  have dbW02 := (Rows.bc (HR.out.right.right.right.right.right.right.left) 2 rfl).1
  have tbW0 := (Rows.bc (HR.out.right.right.right.right.right.right.left) 0 rfl).2
  have da00 := (Rows.bc (HR.out.right.right.right.right.right.right.right.right.right) 0 rfl).1
  have da01 := (Rows.bc (HR.out.right.right.right.right.right.right.right.right.right) 1 rfl).1
  have da02 := (Rows.bc (HR.out.right.right.right.right.right.right.right.right.right) 2 rfl).1
  have ta0 := (Rows.bc (HR.out.right.right.right.right.right.right.right.right.right) 0 rfl).2
  refine wpAnyH_ready (rs := [2]) (by kernel_rfl) (by simp) ?_
  refine AllReadyH.cons (o := ?oi103) ?hi103 (fun K hK => ?step103) AllReadyH.nil
  case hi103 => simp only [List.getElem?_toArray, List.getElem?_cons_succ, List.getElem?_cons_zero]; rfl
  rw [if_pos (by rfl)]
  go_simp
  go_at_call 8
  refine (toBufferY_c A0 n0 c0 d0 w.heap.size _ (T0.out.below HB.out (Nat.le_refl _)) HB.out.size F0.out).mono ?_
  rintro e w11 ⟨v, rsy0, rfl, hs, hr, hb⟩
  obtain ⟨fy00, fy01, fy02, rfl⟩ := hs.form hr
  have Sy0 := hid hs
  clear hs
  replace HR := hid (HR.out.newer hb hr HB.out.size)
  replace HB := hid (HB.out.trans (hb.mono HB.out.size))
  clear hb hr
  clear dbG00 dbG01 dbG02 tbG0 dbx00 dbx01 dbx02 tbx0 dbW00 dbW01 dbW02 tbW0 da00 da01 da02 ta0
  have dbG00 := (Rows.bc (HR.out.right.left) 0 rfl).1
  have dbG01 := (Rows.bc (HR.out.right.left) 1 rfl).1
  have dbG02 := (Rows.bc (HR.out.right.left) 2 rfl).1
  have tbG0 := (Rows.bc (HR.out.right.left) 0 rfl).2
  have dbx00 := (Rows.bc (HR.out.right.right.right.right.right.left) 0 rfl).1
  have dbx01 := (Rows.bc (HR.out.right.right.right.right.right.left) 1 rfl).1
  have dbx02 := (Rows.bc (HR.out.right.right.right.right.right.left) 2 rfl).1
  have tbx0 := (Rows.bc (HR.out.right.right.right.right.right.left) 0 rfl).2
  have dbW00 := (Rows.bc (HR.out.right.right.right.right.right.right.right.left) 0 rfl).1
  have dbW01 := (Rows.bc (HR.out.right.right.right.right.right.right.right.left) 1 rfl).1
  have dbW02 := (Rows.bc (HR.out.right.right.right.right.right.right.right.left) 2 rfl).1
  have tbW0 := (Rows.bc (HR.out.right.right.right.right.right.right.right.left) 0 rfl).2
  have da00 := (Rows.bc (HR.out.right.right.right.right.right.right.right.right.right.right) 0 rfl).1
  have da01 := (Rows.bc (HR.out.right.right.right.right.right.right.right.right.right.right) 1 rfl).1
  have da02 := (Rows.bc (HR.out.right.right.right.right.right.right.right.right.right.right) 2 rfl).1
  have ta0 := (Rows.bc (HR.out.right.right.right.right.right.right.right.right.right.right) 0 rfl).2
  refine hK.out _ _ ⟨dbx00, dbx01, dbx02, da00, da01, da02⟩ (fun hS9 => ?_)
  refine wpAnyH_ready (rs := [3]) (by kernel_rfl) (by simp) ?_
  refine AllReadyH.cons (o := ?oi104) ?hi104 (fun K hK => ?step104) AllReadyH.nil
  case hi104 => simp only [List.getElem?_toArray, List.getElem?_cons_succ, List.getElem?_cons_zero]; rfl
  rw [if_pos (by rfl)]
  go_simp
  go_at_call 11
  refine (eqBufferX_c Sx0.out (HR.out.right.right.right.right.right.right.left) Sy0.out (HR.out.left)).mono ?_
  rintro e w12 ⟨rfl, hb⟩
  replace HR := hid (HR.out.below hb)
  replace HB := hid (HB.out.trans (hb.mono HB.out.size))
  clear hb
  clear dbG00 dbG01 dbG02 tbG0 dbx00 dbx01 dbx02 tbx0 dbW00 dbW01 dbW02 tbW0 da00 da01 da02 ta0
  have dbG00 := (Rows.bc (HR.out.right.left) 0 rfl).1
  have dbG01 := (Rows.bc (HR.out.right.left) 1 rfl).1
  have dbG02 := (Rows.bc (HR.out.right.left) 2 rfl).1
  have tbG0 := (Rows.bc (HR.out.right.left) 0 rfl).2
  have dbx00 := (Rows.bc (HR.out.right.right.right.right.right.left) 0 rfl).1
  have dbx01 := (Rows.bc (HR.out.right.right.right.right.right.left) 1 rfl).1
  have dbx02 := (Rows.bc (HR.out.right.right.right.right.right.left) 2 rfl).1
  have tbx0 := (Rows.bc (HR.out.right.right.right.right.right.left) 0 rfl).2
  have dbW00 := (Rows.bc (HR.out.right.right.right.right.right.right.right.left) 0 rfl).1
  have dbW01 := (Rows.bc (HR.out.right.right.right.right.right.right.right.left) 1 rfl).1
  have dbW02 := (Rows.bc (HR.out.right.right.right.right.right.right.right.left) 2 rfl).1
  have tbW0 := (Rows.bc (HR.out.right.right.right.right.right.right.right.left) 0 rfl).2
  have da00 := (Rows.bc (HR.out.right.right.right.right.right.right.right.right.right.right) 0 rfl).1
  have da01 := (Rows.bc (HR.out.right.right.right.right.right.right.right.right.right.right) 1 rfl).1
  have da02 := (Rows.bc (HR.out.right.right.right.right.right.right.right.right.right.right) 2 rfl).1
  have ta0 := (Rows.bc (HR.out.right.right.right.right.right.right.right.right.right.right) 0 rfl).2
  refine hK.out _ _ ⟨dbx00, dbx01, dbx02, da00, da01, da02⟩ (fun hS9 => ?_)
  refine wpAnyH_take (i := 4) (oi := ?oi105) (v := ?v105) ?hi105 (by kernel_rfl) ?hf105 ?hr105 ?hQ105 (Or.inl ⟨?hw105, ?hy105⟩) (by assumption) ?rest105
  case hi105 => simp only [List.getElem?_toArray, List.getElem?_cons_succ, List.getElem?_cons_zero]; rfl
  case hf105 => kernel_rfl
  case hr105 => kernel_rfl
  case hw105 => rfl
  case hy105 => (intro w hSw; (try dsimp only at hSw); go_simp; all_goals (first | done | with_reducible rfl))
  case hQ105 => exact fun _ _ _ h => h
  simp only [Act.put, List.setIfInBounds_toArray, List.set_cons_zero, List.set_cons_succ]
  refine wpAnyH_done (by kernel_rfl) ?_ _
  replace HR := hid (HR.out.sub (List.sublist_append_right _ _))
  clear Sy0
  clear dbG00 dbG01 dbG02 tbG0 dbx00 dbx01 dbx02 tbx0 dbW00 dbW01 dbW02 tbW0 da00 da01 da02 ta0
  have dbG00 := (Rows.bc (HR.out.left) 0 rfl).1
  have dbG01 := (Rows.bc (HR.out.left) 1 rfl).1
  have dbG02 := (Rows.bc (HR.out.left) 2 rfl).1
  have tbG0 := (Rows.bc (HR.out.left) 0 rfl).2
  have dbx00 := (Rows.bc (HR.out.right.right.right.right.left) 0 rfl).1
  have dbx01 := (Rows.bc (HR.out.right.right.right.right.left) 1 rfl).1
  have dbx02 := (Rows.bc (HR.out.right.right.right.right.left) 2 rfl).1
  have tbx0 := (Rows.bc (HR.out.right.right.right.right.left) 0 rfl).2
  have dbW00 := (Rows.bc (HR.out.right.right.right.right.right.right.left) 0 rfl).1
  have dbW01 := (Rows.bc (HR.out.right.right.right.right.right.right.left) 1 rfl).1
  have dbW02 := (Rows.bc (HR.out.right.right.right.right.right.right.left) 2 rfl).1
  have tbW0 := (Rows.bc (HR.out.right.right.right.right.right.right.left) 0 rfl).2
  have da00 := (Rows.bc (HR.out.right.right.right.right.right.right.right.right.right) 0 rfl).1
  have da01 := (Rows.bc (HR.out.right.right.right.right.right.right.right.right.right) 1 rfl).1
  have da02 := (Rows.bc (HR.out.right.right.right.right.right.right.right.right.right) 2 rfl).1
  have ta0 := (Rows.bc (HR.out.right.right.right.right.right.right.right.right.right) 0 rfl).2
  go_wp2_with fail
  refine (toRecsY_c A1 n1 c1 d1 w.heap.size _ (T1.out.below HB.out (Nat.le_refl _)) HB.out.size F1.out).mono ?_
  rintro e w13 ⟨v, rsy1, rfl, hs, hr, hb⟩
  obtain ⟨fy10, fy11, fy12, rfl⟩ := hs.form hr
  have Sy1 := hid hs
  clear hs
  replace HR := hid (HR.out.newer hb hr HB.out.size)
  replace HB := hid (HB.out.trans (hb.mono HB.out.size))
  clear hb hr
  clear dbG00 dbG01 dbG02 tbG0 dbx00 dbx01 dbx02 tbx0 dbW00 dbW01 dbW02 tbW0 da00 da01 da02 ta0
  have dbG00 := (Rows.bc (HR.out.right.left) 0 rfl).1
  have dbG01 := (Rows.bc (HR.out.right.left) 1 rfl).1
  have dbG02 := (Rows.bc (HR.out.right.left) 2 rfl).1
  have tbG0 := (Rows.bc (HR.out.right.left) 0 rfl).2
  have dbx00 := (Rows.bc (HR.out.right.right.right.right.right.left) 0 rfl).1
  have dbx01 := (Rows.bc (HR.out.right.right.right.right.right.left) 1 rfl).1
  have dbx02 := (Rows.bc (HR.out.right.right.right.right.right.left) 2 rfl).1
  have tbx0 := (Rows.bc (HR.out.right.right.right.right.right.left) 0 rfl).2
  have dbW00 := (Rows.bc (HR.out.right.right.right.right.right.right.right.left) 0 rfl).1
  have dbW01 := (Rows.bc (HR.out.right.right.right.right.right.right.right.left) 1 rfl).1
  have dbW02 := (Rows.bc (HR.out.right.right.right.right.right.right.right.left) 2 rfl).1
  have tbW0 := (Rows.bc (HR.out.right.right.right.right.right.right.right.left) 0 rfl).2
  have da00 := (Rows.bc (HR.out.right.right.right.right.right.right.right.right.right.right) 0 rfl).1
  have da01 := (Rows.bc (HR.out.right.right.right.right.right.right.right.right.right.right) 1 rfl).1
  have da02 := (Rows.bc (HR.out.right.right.right.right.right.right.right.right.right.right) 2 rfl).1
  have ta0 := (Rows.bc (HR.out.right.right.right.right.right.right.right.right.right.right) 0 rfl).2
  go_wp2_with fail
  refine (eqRecsX_c Sx1.out (HR.out.right.right.right.right.left) Sy1.out (HR.out.left)).mono ?_
  rintro e w14 ⟨rfl, hb⟩
  replace HR := hid (HR.out.below hb)
  replace HB := hid (HB.out.trans (hb.mono HB.out.size))
  clear hb
  clear dbG00 dbG01 dbG02 tbG0 dbx00 dbx01 dbx02 tbx0 dbW00 dbW01 dbW02 tbW0 da00 da01 da02 ta0
  have dbG00 := (Rows.bc (HR.out.right.left) 0 rfl).1
  have dbG01 := (Rows.bc (HR.out.right.left) 1 rfl).1
  have dbG02 := (Rows.bc (HR.out.right.left) 2 rfl).1
  have tbG0 := (Rows.bc (HR.out.right.left) 0 rfl).2
  have dbx00 := (Rows.bc (HR.out.right.right.right.right.right.left) 0 rfl).1
  have dbx01 := (Rows.bc (HR.out.right.right.right.right.right.left) 1 rfl).1
  have dbx02 := (Rows.bc (HR.out.right.right.right.right.right.left) 2 rfl).1
  have tbx0 := (Rows.bc (HR.out.right.right.right.right.right.left) 0 rfl).2
  have dbW00 := (Rows.bc (HR.out.right.right.right.right.right.right.right.left) 0 rfl).1
  have dbW01 := (Rows.bc (HR.out.right.right.right.right.right.right.right.left) 1 rfl).1
  have dbW02 := (Rows.bc (HR.out.right.right.right.right.right.right.right.left) 2 rfl).1
  have tbW0 := (Rows.bc (HR.out.right.right.right.right.right.right.right.left) 0 rfl).2
  have da00 := (Rows.bc (HR.out.right.right.right.right.right.right.right.right.right.right) 0 rfl).1
  have da01 := (Rows.bc (HR.out.right.right.right.right.right.right.right.right.right.right) 1 rfl).1
  have da02 := (Rows.bc (HR.out.right.right.right.right.right.right.right.right.right.right) 2 rfl).1
  have ta0 := (Rows.bc (HR.out.right.right.right.right.right.right.right.right.right.right) 0 rfl).2
  replace HR := hid (HR.out.sub (List.sublist_append_right _ _))
  clear Sy1
  clear dbG00 dbG01 dbG02 tbG0 dbx00 dbx01 dbx02 tbx0 dbW00 dbW01 dbW02 tbW0 da00 da01 da02 ta0
  have dbG00 := (Rows.bc (HR.out.left) 0 rfl).1
  have dbG01 := (Rows.bc (HR.out.left) 1 rfl).1
  have dbG02 := (Rows.bc (HR.out.left) 2 rfl).1
  have tbG0 := (Rows.bc (HR.out.left) 0 rfl).2
  have dbx00 := (Rows.bc (HR.out.right.right.right.right.left) 0 rfl).1
  have dbx01 := (Rows.bc (HR.out.right.right.right.right.left) 1 rfl).1
  have dbx02 := (Rows.bc (HR.out.right.right.right.right.left) 2 rfl).1
  have tbx0 := (Rows.bc (HR.out.right.right.right.right.left) 0 rfl).2
  have dbW00 := (Rows.bc (HR.out.right.right.right.right.right.right.left) 0 rfl).1
  have dbW01 := (Rows.bc (HR.out.right.right.right.right.right.right.left) 1 rfl).1
  have dbW02 := (Rows.bc (HR.out.right.right.right.right.right.right.left) 2 rfl).1
  have tbW0 := (Rows.bc (HR.out.right.right.right.right.right.right.left) 0 rfl).2
  have da00 := (Rows.bc (HR.out.right.right.right.right.right.right.right.right.right) 0 rfl).1
  have da01 := (Rows.bc (HR.out.right.right.right.right.right.right.right.right.right) 1 rfl).1
  have da02 := (Rows.bc (HR.out.right.right.right.right.right.right.right.right.right) 2 rfl).1
  have ta0 := (Rows.bc (HR.out.right.right.right.right.right.right.right.right.right) 0 rfl).2
  replace HR := hid (HR.out.perm (((((((((List.perm_append_comm_assoc _ _ _).append_left _).trans (List.perm_append_comm_assoc _ _ _)).append_left _).trans (List.perm_append_comm_assoc _ _ _)).append_left _).trans (List.perm_append_comm_assoc _ _ _)).append_left _).trans (List.perm_append_comm_assoc _ _ _)))
  go_wp2_with fail
  refine (markBufferX_c (k := 1) Sx0.out HR.out HB.out.size F0.out (by omega)).mono ?_
  rintro e w15 ⟨rx0, rsx0, rfl, hM, hr, hb, hlx0⟩
  replace HR := hid hr
  replace HB := hid (HB.out.trans hb)
  have Mx0 := hid hM
  clear hr hb hM Sx0
  clear dbG00 dbG01 dbG02 tbG0 dbx00 dbx01 dbx02 tbx0 dbW00 dbW01 dbW02 tbW0 da00 da01 da02 ta0
  have dbG00 := (Rows.bc (HR.out.right.left) 0 rfl).1
  have dbG01 := (Rows.bc (HR.out.right.left) 1 rfl).1
  have dbG02 := (Rows.bc (HR.out.right.left) 2 rfl).1
  have tbG0 := (Rows.bc (HR.out.right.left) 0 rfl).2
  have dbx00 := (Rows.bc (HR.out.right.right.right.right.right.left) 0 rfl).1
  have dbx01 := (Rows.bc (HR.out.right.right.right.right.right.left) 1 rfl).1
  have dbx02 := (Rows.bc (HR.out.right.right.right.right.right.left) 2 rfl).1
  have tbx0 := (Rows.bc (HR.out.right.right.right.right.right.left) 0 rfl).2
  have dbW00 := (Rows.bc (HR.out.right.right.right.right.right.right.left) 0 rfl).1
  have dbW01 := (Rows.bc (HR.out.right.right.right.right.right.right.left) 1 rfl).1
  have dbW02 := (Rows.bc (HR.out.right.right.right.right.right.right.left) 2 rfl).1
  have tbW0 := (Rows.bc (HR.out.right.right.right.right.right.right.left) 0 rfl).2
  have da00 := (Rows.bc (HR.out.right.right.right.right.right.right.right.right.right) 0 rfl).1
  have da01 := (Rows.bc (HR.out.right.right.right.right.right.right.right.right.right) 1 rfl).1
  have da02 := (Rows.bc (HR.out.right.right.right.right.right.right.right.right.right) 2 rfl).1
  have ta0 := (Rows.bc (HR.out.right.right.right.right.right.right.right.right.right) 0 rfl).2
  replace HR := hid (HR.out.perm (((((((List.perm_append_comm_assoc _ _ _).append_left _).trans (List.perm_append_comm_assoc _ _ _)).append_left _).trans (List.perm_append_comm_assoc _ _ _)).append_left _).trans (List.perm_append_comm_assoc _ _ _)))
  go_wp2_with fail
  refine (markRecsX_c (k := rx0) Sx1.out HR.out HB.out.size F1.out (by omega)).mono ?_
  rintro e w16 ⟨rx1, rsx1, rfl, hM, hr, hb, hlx1⟩
  replace HR := hid hr
  replace HB := hid (HB.out.trans hb)
  have Mx1 := hid hM
  clear hr hb hM Sx1
  clear dbG00 dbG01 dbG02 tbG0 dbx00 dbx01 dbx02 tbx0 dbW00 dbW01 dbW02 tbW0 da00 da01 da02 ta0
  have dbG00 := (Rows.bc (HR.out.right.right.left) 0 rfl).1
  have dbG01 := (Rows.bc (HR.out.right.right.left) 1 rfl).1
  have dbG02 := (Rows.bc (HR.out.right.right.left) 2 rfl).1
  have tbG0 := (Rows.bc (HR.out.right.right.left) 0 rfl).2
  have dbx00 := (Rows.bc (HR.out.right.right.right.right.right.left) 0 rfl).1
  have dbx01 := (Rows.bc (HR.out.right.right.right.right.right.left) 1 rfl).1
  have dbx02 := (Rows.bc (HR.out.right.right.right.right.right.left) 2 rfl).1
  have tbx0 := (Rows.bc (HR.out.right.right.right.right.right.left) 0 rfl).2
  have dbW00 := (Rows.bc (HR.out.right.right.right.right.right.right.left) 0 rfl).1
  have dbW01 := (Rows.bc (HR.out.right.right.right.right.right.right.left) 1 rfl).1
  have dbW02 := (Rows.bc (HR.out.right.right.right.right.right.right.left) 2 rfl).1
  have tbW0 := (Rows.bc (HR.out.right.right.right.right.right.right.left) 0 rfl).2
  have da00 := (Rows.bc (HR.out.right.right.right.right.right.right.right.right.right) 0 rfl).1
  have da01 := (Rows.bc (HR.out.right.right.right.right.right.right.right.right.right) 1 rfl).1
  have da02 := (Rows.bc (HR.out.right.right.right.right.right.right.right.right.right) 2 rfl).1
  have ta0 := (Rows.bc (HR.out.right.right.right.right.right.right.right.right.right) 0 rfl).2
  replace HR := hid (HR.out.sub ((List.Sublist.refl _).append (List.sublist_append_right _ _)))
  clear Mx0
  replace HR := hid (HR.out.sub ((List.Sublist.refl _).append ((List.Sublist.refl _).append ((List.Sublist.refl _).append ((List.Sublist.refl _).append (List.sublist_append_right _ _))))))
  replace HR := hid (HR.out.sub (List.sublist_append_right _ _))
  clear Mx1
  clear dbG00 dbG01 dbG02 tbG0 dbx00 dbx01 dbx02 tbx0 dbW00 dbW01 dbW02 tbW0 da00 da01 da02 ta0
  have dbG00 := (Rows.bc (HR.out.left) 0 rfl).1
  have dbG01 := (Rows.bc (HR.out.left) 1 rfl).1
  have dbG02 := (Rows.bc (HR.out.left) 2 rfl).1
  have tbG0 := (Rows.bc (HR.out.left) 0 rfl).2
  have dbW00 := (Rows.bc (HR.out.right.right.right.left) 0 rfl).1
  have dbW01 := (Rows.bc (HR.out.right.right.right.left) 1 rfl).1
  have dbW02 := (Rows.bc (HR.out.right.right.right.left) 2 rfl).1
  have tbW0 := (Rows.bc (HR.out.right.right.right.left) 0 rfl).2
  have da00 := (Rows.bc (HR.out.right.right.right.right.right.right) 0 rfl).1
  have da01 := (Rows.bc (HR.out.right.right.right.right.right.right) 1 rfl).1
  have da02 := (Rows.bc (HR.out.right.right.right.right.right.right) 2 rfl).1
  have ta0 := (Rows.bc (HR.out.right.right.right.right.right.right) 0 rfl).2
  go_wp2_with fail
  refine (eqBufferX_c SG0.out (HR.out.right.left) SW0.out (HR.out.right.right.right.right.left)).mono ?_
  rintro e w17 ⟨rfl, hb⟩
  replace HR := hid (HR.out.below hb)
  replace HB := hid (HB.out.trans (hb.mono HB.out.size))
  clear hb
  clear dbG00 dbG01 dbG02 tbG0 dbW00 dbW01 dbW02 tbW0 da00 da01 da02 ta0
  have dbG00 := (Rows.bc (HR.out.left) 0 rfl).1
  have dbG01 := (Rows.bc (HR.out.left) 1 rfl).1
  have dbG02 := (Rows.bc (HR.out.left) 2 rfl).1
  have tbG0 := (Rows.bc (HR.out.left) 0 rfl).2
  have dbW00 := (Rows.bc (HR.out.right.right.right.left) 0 rfl).1
  have dbW01 := (Rows.bc (HR.out.right.right.right.left) 1 rfl).1
  have dbW02 := (Rows.bc (HR.out.right.right.right.left) 2 rfl).1
  have tbW0 := (Rows.bc (HR.out.right.right.right.left) 0 rfl).2
  have da00 := (Rows.bc (HR.out.right.right.right.right.right.right) 0 rfl).1
  have da01 := (Rows.bc (HR.out.right.right.right.right.right.right) 1 rfl).1
  have da02 := (Rows.bc (HR.out.right.right.right.right.right.right) 2 rfl).1
  have ta0 := (Rows.bc (HR.out.right.right.right.right.right.right) 0 rfl).2
  go_wp2_with fail
  refine (eqRecssX_c SG1.out (HR.out.right.right.left) SW1.out (HR.out.right.right.right.right.right.left)).mono ?_
  rintro e w18 ⟨rfl, hb⟩
  replace HR := hid (HR.out.below hb)
  replace HB := hid (HB.out.trans (hb.mono HB.out.size))
  clear hb
  clear dbG00 dbG01 dbG02 tbG0 dbW00 dbW01 dbW02 tbW0 da00 da01 da02 ta0
  have dbG00 := (Rows.bc (HR.out.left) 0 rfl).1
  have dbG01 := (Rows.bc (HR.out.left) 1 rfl).1
  have dbG02 := (Rows.bc (HR.out.left) 2 rfl).1
  have tbG0 := (Rows.bc (HR.out.left) 0 rfl).2
  have dbW00 := (Rows.bc (HR.out.right.right.right.left) 0 rfl).1
  have dbW01 := (Rows.bc (HR.out.right.right.right.left) 1 rfl).1
  have dbW02 := (Rows.bc (HR.out.right.right.right.left) 2 rfl).1
  have tbW0 := (Rows.bc (HR.out.right.right.right.left) 0 rfl).2
  have da00 := (Rows.bc (HR.out.right.right.right.right.right.right) 0 rfl).1
  have da01 := (Rows.bc (HR.out.right.right.right.right.right.right) 1 rfl).1
  have da02 := (Rows.bc (HR.out.right.right.right.right.right.right) 2 rfl).1
  have ta0 := (Rows.bc (HR.out.right.right.right.right.right.right) 0 rfl).2
  replace HR := hid (HR.out.perm (List.perm_append_comm_assoc _ _ _))
  go_wp2_with fail
  refine (markBufferX_c (k := 1) SG0.out HR.out HB.out.size DX0.out (by omega)).mono ?_
  rintro e w19 ⟨rG0, rsG0, rfl, hM, hr, hb, hlG0⟩
  replace HR := hid hr
  replace HB := hid (HB.out.trans hb)
  have MG0 := hid hM
  clear hr hb hM SG0
  clear dbG00 dbG01 dbG02 tbG0 dbW00 dbW01 dbW02 tbW0 da00 da01 da02 ta0
  have dbG00 := (Rows.bc (HR.out.right.left) 0 rfl).1
  have dbG01 := (Rows.bc (HR.out.right.left) 1 rfl).1
  have dbG02 := (Rows.bc (HR.out.right.left) 2 rfl).1
  have tbG0 := (Rows.bc (HR.out.right.left) 0 rfl).2
  have dbW00 := (Rows.bc (HR.out.right.right.right.left) 0 rfl).1
  have dbW01 := (Rows.bc (HR.out.right.right.right.left) 1 rfl).1
  have dbW02 := (Rows.bc (HR.out.right.right.right.left) 2 rfl).1
  have tbW0 := (Rows.bc (HR.out.right.right.right.left) 0 rfl).2
  have da00 := (Rows.bc (HR.out.right.right.right.right.right.right) 0 rfl).1
  have da01 := (Rows.bc (HR.out.right.right.right.right.right.right) 1 rfl).1
  have da02 := (Rows.bc (HR.out.right.right.right.right.right.right) 2 rfl).1
  have ta0 := (Rows.bc (HR.out.right.right.right.right.right.right) 0 rfl).2
  replace HR := hid (HR.out.perm (((List.perm_append_comm_assoc _ _ _).append_left _).trans (List.perm_append_comm_assoc _ _ _)))
  go_wp2_with fail
  refine (markRecssX_c (k := rG0) SG1.out HR.out HB.out.size DX1.out (by omega)).mono ?_
  rintro e w20 ⟨rG1, rsG1, rfl, hM, hr, hb, hlG1⟩
  replace HR := hid hr
  replace HB := hid (HB.out.trans hb)
  have MG1 := hid hM
  clear hr hb hM SG1
  clear dbG00 dbG01 dbG02 tbG0 dbW00 dbW01 dbW02 tbW0 da00 da01 da02 ta0
  have dbG00 := (Rows.bc (HR.out.right.right.left) 0 rfl).1
  have dbG01 := (Rows.bc (HR.out.right.right.left) 1 rfl).1
  have dbG02 := (Rows.bc (HR.out.right.right.left) 2 rfl).1
  have tbG0 := (Rows.bc (HR.out.right.right.left) 0 rfl).2
  have dbW00 := (Rows.bc (HR.out.right.right.right.left) 0 rfl).1
  have dbW01 := (Rows.bc (HR.out.right.right.right.left) 1 rfl).1
  have dbW02 := (Rows.bc (HR.out.right.right.right.left) 2 rfl).1
  have tbW0 := (Rows.bc (HR.out.right.right.right.left) 0 rfl).2
  have da00 := (Rows.bc (HR.out.right.right.right.right.right.right) 0 rfl).1
  have da01 := (Rows.bc (HR.out.right.right.right.right.right.right) 1 rfl).1
  have da02 := (Rows.bc (HR.out.right.right.right.right.right.right) 2 rfl).1
  have ta0 := (Rows.bc (HR.out.right.right.right.right.right.right) 0 rfl).2
  go_wp2_with fail
  refine (heldBufferX_c MG0.out (HR.out.right.left)).mono ?_
  rintro e w21 ⟨rfl, hb⟩
  replace HR := hid (HR.out.below hb)
  replace HB := hid (HB.out.trans (hb.mono HB.out.size))
  clear hb
  clear dbG00 dbG01 dbG02 tbG0 dbW00 dbW01 dbW02 tbW0 da00 da01 da02 ta0
  have dbG00 := (Rows.bc (HR.out.right.right.left) 0 rfl).1
  have dbG01 := (Rows.bc (HR.out.right.right.left) 1 rfl).1
  have dbG02 := (Rows.bc (HR.out.right.right.left) 2 rfl).1
  have tbG0 := (Rows.bc (HR.out.right.right.left) 0 rfl).2
  have dbW00 := (Rows.bc (HR.out.right.right.right.left) 0 rfl).1
  have dbW01 := (Rows.bc (HR.out.right.right.right.left) 1 rfl).1
  have dbW02 := (Rows.bc (HR.out.right.right.right.left) 2 rfl).1
  have tbW0 := (Rows.bc (HR.out.right.right.right.left) 0 rfl).2
  have da00 := (Rows.bc (HR.out.right.right.right.right.right.right) 0 rfl).1
  have da01 := (Rows.bc (HR.out.right.right.right.right.right.right) 1 rfl).1
  have da02 := (Rows.bc (HR.out.right.right.right.right.right.right) 2 rfl).1
  have ta0 := (Rows.bc (HR.out.right.right.right.right.right.right) 0 rfl).2
  go_wp2_with fail
  refine (heldRecssX_c MG1.out (HR.out.left)).mono ?_
  rintro e w22 ⟨rfl, hb⟩
  replace HR := hid (HR.out.below hb)
  replace HB := hid (HB.out.trans (hb.mono HB.out.size))
  clear hb
  clear dbG00 dbG01 dbG02 tbG0 dbW00 dbW01 dbW02 tbW0 da00 da01 da02 ta0
  have dbG00 := (Rows.bc (HR.out.right.right.left) 0 rfl).1
  have dbG01 := (Rows.bc (HR.out.right.right.left) 1 rfl).1
  have dbG02 := (Rows.bc (HR.out.right.right.left) 2 rfl).1
  have tbG0 := (Rows.bc (HR.out.right.right.left) 0 rfl).2
  have dbW00 := (Rows.bc (HR.out.right.right.right.left) 0 rfl).1
  have dbW01 := (Rows.bc (HR.out.right.right.right.left) 1 rfl).1
  have dbW02 := (Rows.bc (HR.out.right.right.right.left) 2 rfl).1
  have tbW0 := (Rows.bc (HR.out.right.right.right.left) 0 rfl).2
  have da00 := (Rows.bc (HR.out.right.right.right.right.right.right) 0 rfl).1
  have da01 := (Rows.bc (HR.out.right.right.right.right.right.right) 1 rfl).1
  have da02 := (Rows.bc (HR.out.right.right.right.right.right.right) 2 rfl).1
  have ta0 := (Rows.bc (HR.out.right.right.right.right.right.right) 0 rfl).2
  go_wp2_with fail
  refine (toBufferY_c A0 n0 c0 d0 w.heap.size _ (T0.out.below HB.out (Nat.le_refl _)) HB.out.size F0.out).mono ?_
  rintro e w23 ⟨v, rsz0, rfl, hs, hr, hb⟩
  obtain ⟨fz00, fz01, fz02, rfl⟩ := hs.form hr
  have Sz0 := hid hs
  clear hs
  replace HR := hid (HR.out.newer hb hr HB.out.size)
  replace HB := hid (HB.out.trans (hb.mono HB.out.size))
  clear hb hr
  clear dbG00 dbG01 dbG02 tbG0 dbW00 dbW01 dbW02 tbW0 da00 da01 da02 ta0
  have dbG00 := (Rows.bc (HR.out.right.right.right.left) 0 rfl).1
  have dbG01 := (Rows.bc (HR.out.right.right.right.left) 1 rfl).1
  have dbG02 := (Rows.bc (HR.out.right.right.right.left) 2 rfl).1
  have tbG0 := (Rows.bc (HR.out.right.right.right.left) 0 rfl).2
  have dbW00 := (Rows.bc (HR.out.right.right.right.right.left) 0 rfl).1
  have dbW01 := (Rows.bc (HR.out.right.right.right.right.left) 1 rfl).1
  have dbW02 := (Rows.bc (HR.out.right.right.right.right.left) 2 rfl).1
  have tbW0 := (Rows.bc (HR.out.right.right.right.right.left) 0 rfl).2
  have da00 := (Rows.bc (HR.out.right.right.right.right.right.right.right) 0 rfl).1
  have da01 := (Rows.bc (HR.out.right.right.right.right.right.right.right) 1 rfl).1
  have da02 := (Rows.bc (HR.out.right.right.right.right.right.right.right) 2 rfl).1
  have ta0 := (Rows.bc (HR.out.right.right.right.right.right.right.right) 0 rfl).2
  go_wp2_with fail
  refine (toRecsY_c A1 n1 c1 d1 w.heap.size _ (T1.out.below HB.out (Nat.le_refl _)) HB.out.size F1.out).mono ?_
  rintro e w24 ⟨v, rsz1, rfl, hs, hr, hb⟩
  obtain ⟨fz10, fz11, fz12, rfl⟩ := hs.form hr
  have Sz1 := hid hs
  clear hs
  replace HR := hid (HR.out.newer hb hr HB.out.size)
  replace HB := hid (HB.out.trans (hb.mono HB.out.size))
  clear hb hr
  clear dbG00 dbG01 dbG02 tbG0 dbW00 dbW01 dbW02 tbW0 da00 da01 da02 ta0
  have dbG00 := (Rows.bc (HR.out.right.right.right.right.left) 0 rfl).1
  have dbG01 := (Rows.bc (HR.out.right.right.right.right.left) 1 rfl).1
  have dbG02 := (Rows.bc (HR.out.right.right.right.right.left) 2 rfl).1
  have tbG0 := (Rows.bc (HR.out.right.right.right.right.left) 0 rfl).2
  have dbW00 := (Rows.bc (HR.out.right.right.right.right.right.left) 0 rfl).1
  have dbW01 := (Rows.bc (HR.out.right.right.right.right.right.left) 1 rfl).1
  have dbW02 := (Rows.bc (HR.out.right.right.right.right.right.left) 2 rfl).1
  have tbW0 := (Rows.bc (HR.out.right.right.right.right.right.left) 0 rfl).2
  have da00 := (Rows.bc (HR.out.right.right.right.right.right.right.right.right) 0 rfl).1
  have da01 := (Rows.bc (HR.out.right.right.right.right.right.right.right.right) 1 rfl).1
  have da02 := (Rows.bc (HR.out.right.right.right.right.right.right.right.right) 2 rfl).1
  have ta0 := (Rows.bc (HR.out.right.right.right.right.right.right.right.right) 0 rfl).2
  go_wp2_with fail
  refine (cI.out _ _ (Sz0.out.at_ (HR.out.right.left) F0.out) _ (Sz1.out.at_ (HR.out.left) F1.out)).mono ?_
  rintro e w25 ⟨v0, rsh0, v1, rsh1, rfl, hs0, hs1, hr, hb⟩
  obtain ⟨fh00, fh01, fh02, rfl⟩ := hs0.form hr.left
  have Sh0 := hid hs0
  obtain ⟨fh10, fh11, fh12, rfl⟩ := hs1.form hr.right
  have Sh1 := hid hs1
  clear hs0 hs1
  replace HR := hid (HR.out.newer hb hr HB.out.size)
  replace HR := hid (by simpa only [List.append_assoc] using HR.out)
  replace HB := hid (HB.out.trans (hb.mono HB.out.size))
  clear hb hr
  clear dbG00 dbG01 dbG02 tbG0 dbW00 dbW01 dbW02 tbW0 da00 da01 da02 ta0
  have dbG00 := (Rows.bc (HR.out.right.right.right.right.right.right.left) 0 rfl).1
  have dbG01 := (Rows.bc (HR.out.right.right.right.right.right.right.left) 1 rfl).1
  have dbG02 := (Rows.bc (HR.out.right.right.right.right.right.right.left) 2 rfl).1
  have tbG0 := (Rows.bc (HR.out.right.right.right.right.right.right.left) 0 rfl).2
  have dbW00 := (Rows.bc (HR.out.right.right.right.right.right.right.right.left) 0 rfl).1
  have dbW01 := (Rows.bc (HR.out.right.right.right.right.right.right.right.left) 1 rfl).1
  have dbW02 := (Rows.bc (HR.out.right.right.right.right.right.right.right.left) 2 rfl).1
  have tbW0 := (Rows.bc (HR.out.right.right.right.right.right.right.right.left) 0 rfl).2
  have da00 := (Rows.bc (HR.out.right.right.right.right.right.right.right.right.right.right) 0 rfl).1
  have da01 := (Rows.bc (HR.out.right.right.right.right.right.right.right.right.right.right) 1 rfl).1
  have da02 := (Rows.bc (HR.out.right.right.right.right.right.right.right.right.right.right) 2 rfl).1
  have ta0 := (Rows.bc (HR.out.right.right.right.right.right.right.right.right.right.right) 0 rfl).2
  have hb : Below w25.heap.size w25 (w25.alloc (.cells #[.int .i64 X0.rm, .int .i64 X0.lv, .slice fh00 fh01 fh02] 29)) := (Below.refl _ _).alloc (Nat.le_refl _) _
  have hr := Rows.box w25 #[.int .i64 X0.rm, .int .i64 X0.lv, .slice fh00 fh01 fh02] 29 3 rfl
  replace HR := hid (HR.out.newer hb hr HB.out.size)
  replace HB := hid (HB.out.trans (hb.mono HB.out.size))
  clear hb hr
  clear dbG00 dbG01 dbG02 tbG0 dbW00 dbW01 dbW02 tbW0 da00 da01 da02 ta0
  have dbh00 := (Rows.bc (HR.out.left) 0 rfl).1
  have dbh01 := (Rows.bc (HR.out.left) 1 rfl).1
  have dbh02 := (Rows.bc (HR.out.left) 2 rfl).1
  have tbh0 := (Rows.bc (HR.out.left) 0 rfl).2
  have dbG00 := (Rows.bc (HR.out.right.right.right.right.right.right.right.left) 0 rfl).1
  have dbG01 := (Rows.bc (HR.out.right.right.right.right.right.right.right.left) 1 rfl).1
  have dbG02 := (Rows.bc (HR.out.right.right.right.right.right.right.right.left) 2 rfl).1
  have tbG0 := (Rows.bc (HR.out.right.right.right.right.right.right.right.left) 0 rfl).2
  have dbW00 := (Rows.bc (HR.out.right.right.right.right.right.right.right.right.left) 0 rfl).1
  have dbW01 := (Rows.bc (HR.out.right.right.right.right.right.right.right.right.left) 1 rfl).1
  have dbW02 := (Rows.bc (HR.out.right.right.right.right.right.right.right.right.left) 2 rfl).1
  have tbW0 := (Rows.bc (HR.out.right.right.right.right.right.right.right.right.left) 0 rfl).2
  have da00 := (Rows.bc (HR.out.right.right.right.right.right.right.right.right.right.right.right) 0 rfl).1
  have da01 := (Rows.bc (HR.out.right.right.right.right.right.right.right.right.right.right.right) 1 rfl).1
  have da02 := (Rows.bc (HR.out.right.right.right.right.right.right.right.right.right.right.right) 2 rfl).1
  have ta0 := (Rows.bc (HR.out.right.right.right.right.right.right.right.right.right.right.right) 0 rfl).2
  replace HR := hid (HR.out.sub ((List.Sublist.refl _).append ((List.Sublist.refl _).append ((List.Sublist.refl _).append ((List.Sublist.refl _).append (List.sublist_append_right _ _))))))
  clear Sz0
  replace HR := hid (HR.out.sub ((List.Sublist.refl _).append ((List.Sublist.refl _).append ((List.Sublist.refl _).append (List.sublist_append_right _ _)))))
  clear Sz1
  go_wp2_with fail
  refine (eqBufferX_c Sh0.out (HR.out.right.left) SW0.out (HR.out.right.right.right.right.right.right.right.left)).mono ?_
  rintro e w26 ⟨rfl, hb⟩
  replace HR := hid (HR.out.below hb)
  replace HB := hid (HB.out.trans (hb.mono HB.out.size))
  clear hb
  clear dbh00 dbh01 dbh02 tbh0 dbG00 dbG01 dbG02 tbG0 dbW00 dbW01 dbW02 tbW0 da00 da01 da02 ta0
  have dbh00 := (Rows.bc (HR.out.left) 0 rfl).1
  have dbh01 := (Rows.bc (HR.out.left) 1 rfl).1
  have dbh02 := (Rows.bc (HR.out.left) 2 rfl).1
  have tbh0 := (Rows.bc (HR.out.left) 0 rfl).2
  have dbG00 := (Rows.bc (HR.out.right.right.right.right.right.left) 0 rfl).1
  have dbG01 := (Rows.bc (HR.out.right.right.right.right.right.left) 1 rfl).1
  have dbG02 := (Rows.bc (HR.out.right.right.right.right.right.left) 2 rfl).1
  have tbG0 := (Rows.bc (HR.out.right.right.right.right.right.left) 0 rfl).2
  have dbW00 := (Rows.bc (HR.out.right.right.right.right.right.right.left) 0 rfl).1
  have dbW01 := (Rows.bc (HR.out.right.right.right.right.right.right.left) 1 rfl).1
  have dbW02 := (Rows.bc (HR.out.right.right.right.right.right.right.left) 2 rfl).1
  have tbW0 := (Rows.bc (HR.out.right.right.right.right.right.right.left) 0 rfl).2
  have da00 := (Rows.bc (HR.out.right.right.right.right.right.right.right.right.right) 0 rfl).1
  have da01 := (Rows.bc (HR.out.right.right.right.right.right.right.right.right.right) 1 rfl).1
  have da02 := (Rows.bc (HR.out.right.right.right.right.right.right.right.right.right) 2 rfl).1
  have ta0 := (Rows.bc (HR.out.right.right.right.right.right.right.right.right.right) 0 rfl).2
  go_wp2_with fail
  refine (eqRecssX_c Sh1.out (HR.out.right.right.left) SW1.out (HR.out.right.right.right.right.right.right.right.right.left)).mono ?_
  rintro e w27 ⟨rfl, hb⟩
  replace HR := hid (HR.out.below hb)
  replace HB := hid (HB.out.trans (hb.mono HB.out.size))
  clear hb
  clear dbh00 dbh01 dbh02 tbh0 dbG00 dbG01 dbG02 tbG0 dbW00 dbW01 dbW02 tbW0 da00 da01 da02 ta0
  have dbh00 := (Rows.bc (HR.out.left) 0 rfl).1
  have dbh01 := (Rows.bc (HR.out.left) 1 rfl).1
  have dbh02 := (Rows.bc (HR.out.left) 2 rfl).1
  have tbh0 := (Rows.bc (HR.out.left) 0 rfl).2
  have dbG00 := (Rows.bc (HR.out.right.right.right.right.right.left) 0 rfl).1
  have dbG01 := (Rows.bc (HR.out.right.right.right.right.right.left) 1 rfl).1
  have dbG02 := (Rows.bc (HR.out.right.right.right.right.right.left) 2 rfl).1
  have tbG0 := (Rows.bc (HR.out.right.right.right.right.right.left) 0 rfl).2
  have dbW00 := (Rows.bc (HR.out.right.right.right.right.right.right.left) 0 rfl).1
  have dbW01 := (Rows.bc (HR.out.right.right.right.right.right.right.left) 1 rfl).1
  have dbW02 := (Rows.bc (HR.out.right.right.right.right.right.right.left) 2 rfl).1
  have tbW0 := (Rows.bc (HR.out.right.right.right.right.right.right.left) 0 rfl).2
  have da00 := (Rows.bc (HR.out.right.right.right.right.right.right.right.right.right) 0 rfl).1
  have da01 := (Rows.bc (HR.out.right.right.right.right.right.right.right.right.right) 1 rfl).1
  have da02 := (Rows.bc (HR.out.right.right.right.right.right.right.right.right.right) 2 rfl).1
  have ta0 := (Rows.bc (HR.out.right.right.right.right.right.right.right.right.right) 0 rfl).2
  go_wp2_with fail
  refine (heldBufferX_c MG0.out (HR.out.right.right.right.right.left)).mono ?_
  rintro e w28 ⟨rfl, hb⟩
  replace HR := hid (HR.out.below hb)
  replace HB := hid (HB.out.trans (hb.mono HB.out.size))
  clear hb
  clear dbh00 dbh01 dbh02 tbh0 dbG00 dbG01 dbG02 tbG0 dbW00 dbW01 dbW02 tbW0 da00 da01 da02 ta0
  have dbh00 := (Rows.bc (HR.out.left) 0 rfl).1
  have dbh01 := (Rows.bc (HR.out.left) 1 rfl).1
  have dbh02 := (Rows.bc (HR.out.left) 2 rfl).1
  have tbh0 := (Rows.bc (HR.out.left) 0 rfl).2
  have dbG00 := (Rows.bc (HR.out.right.right.right.right.right.left) 0 rfl).1
  have dbG01 := (Rows.bc (HR.out.right.right.right.right.right.left) 1 rfl).1
  have dbG02 := (Rows.bc (HR.out.right.right.right.right.right.left) 2 rfl).1
  have tbG0 := (Rows.bc (HR.out.right.right.right.right.right.left) 0 rfl).2
  have dbW00 := (Rows.bc (HR.out.right.right.right.right.right.right.left) 0 rfl).1
  have dbW01 := (Rows.bc (HR.out.right.right.right.right.right.right.left) 1 rfl).1
  have dbW02 := (Rows.bc (HR.out.right.right.right.right.right.right.left) 2 rfl).1
  have tbW0 := (Rows.bc (HR.out.right.right.right.right.right.right.left) 0 rfl).2
  have da00 := (Rows.bc (HR.out.right.right.right.right.right.right.right.right.right) 0 rfl).1
  have da01 := (Rows.bc (HR.out.right.right.right.right.right.right.right.right.right) 1 rfl).1
  have da02 := (Rows.bc (HR.out.right.right.right.right.right.right.right.right.right) 2 rfl).1
  have ta0 := (Rows.bc (HR.out.right.right.right.right.right.right.right.right.right) 0 rfl).2
  go_wp2_with fail
  refine (heldRecssX_c MG1.out (HR.out.right.right.right.left)).mono ?_
  rintro e w29 ⟨rfl, hb⟩
  replace HR := hid (HR.out.below hb)
  replace HB := hid (HB.out.trans (hb.mono HB.out.size))
  clear hb
  clear dbh00 dbh01 dbh02 tbh0 dbG00 dbG01 dbG02 tbG0 dbW00 dbW01 dbW02 tbW0 da00 da01 da02 ta0
  have dbh00 := (Rows.bc (HR.out.left) 0 rfl).1
  have dbh01 := (Rows.bc (HR.out.left) 1 rfl).1
  have dbh02 := (Rows.bc (HR.out.left) 2 rfl).1
  have tbh0 := (Rows.bc (HR.out.left) 0 rfl).2
  have dbG00 := (Rows.bc (HR.out.right.right.right.right.right.left) 0 rfl).1
  have dbG01 := (Rows.bc (HR.out.right.right.right.right.right.left) 1 rfl).1
  have dbG02 := (Rows.bc (HR.out.right.right.right.right.right.left) 2 rfl).1
  have tbG0 := (Rows.bc (HR.out.right.right.right.right.right.left) 0 rfl).2
  have dbW00 := (Rows.bc (HR.out.right.right.right.right.right.right.left) 0 rfl).1
  have dbW01 := (Rows.bc (HR.out.right.right.right.right.right.right.left) 1 rfl).1
  have dbW02 := (Rows.bc (HR.out.right.right.right.right.right.right.left) 2 rfl).1
  have tbW0 := (Rows.bc (HR.out.right.right.right.right.right.right.left) 0 rfl).2
  have da00 := (Rows.bc (HR.out.right.right.right.right.right.right.right.right.right) 0 rfl).1
  have da01 := (Rows.bc (HR.out.right.right.right.right.right.right.right.right.right) 1 rfl).1
  have da02 := (Rows.bc (HR.out.right.right.right.right.right.right.right.right.right) 2 rfl).1
  have ta0 := (Rows.bc (HR.out.right.right.right.right.right.right.right.right.right) 0 rfl).2
  go_wp2_with fail
  go_ret
  exact ⟨rfl, HB.out⟩
end Go.Proofs.Ytfjpfdmlcgkfeaa
