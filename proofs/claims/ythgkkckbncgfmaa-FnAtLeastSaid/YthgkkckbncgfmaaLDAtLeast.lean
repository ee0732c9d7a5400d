/-
  WALK: the law FnAtLeast. By gen_draw.py.
-/
import Derived.Test.YthgkkckbncgfmaaD6
namespace Go.Proofs.Ythgkkckbncgfmaa
open Go.RowKit Nm
set_option linter.unusedSimpArgs false
set_option linter.unusedVariables false

set_option maxHeartbeats 8000000 in
set_option maxRecDepth 100000 in
theorem walk_FnAtLeast (a0 : Option Addr) (len0 cap0 : Nat) (z0 : List Int) (w : World) (w0 : IsRow .u8 w a0 len0 cap0 z0) :
    Calls Try.prog 3 #[.slice a0 len0 cap0] w (BoolPost w true) := by
  have hb0 := w0.le
  have HB := hid (Below.refl w.heap.size w)
  by_cases h1 : (1048576 : Int) < (len0 : Int)
  · go_enter Try.func3, Try.ntmps3
    go_wp2_with fail
    go_ret
    exact ⟨rfl, HB.out⟩
  have DR := hid (drawAtLeast_c a0 len0 cap0 z0 w w0)
  clear w0
  go_enter Try.func3, Try.ntmps3
  go_wp2_with fail
  refine DR.out.mono ?_
  rintro e w1 ⟨v, rsL, l, n, rfl, hs0, hr, hb, hf, hn0, hn1⟩
  obtain ⟨fL0, fL1, fL2, rfl⟩ := hs0.form hr
  have SL := hid hs0
  clear hs0
  have HR := hid (hr.base HB.out.size)
  replace HB := hid (HB.out.trans (hb.mono HB.out.size))
  clear hb hr
  clear DR
  have FL := hid hf
  clear hf
  have C1 := hid (fun (W : World) (u : Value) (h : RecsIn W W.heap.size u l) => iAtLeast h n)
  have C2 := hid (fun (W : World) (u : Value) (h : RecsIn W W.heap.size u l) => sAtLeast h n)
  have C3 := hid (fun (W : World) (u : Value) (h : RecsIn W W.heap.size u l) => iValidRecords h)
  have FO := hid (atLX_fit FL.out n)
  have K1 := hid (fun (hz : recsOk l = true) (W : World) (u : Value) (h : RecsIn W W.heap.size u (atLX l n)) => (show Calls Try.prog 12 #[u, .int .i64 (n + 5)] W (RecsOut W (atLX l (n + 5))) by have := iAtLeast h (n + 5); rwa [atLX_up hz n (n + 5) (by omega)] at this))
  have K2 := hid (fun (W : World) (u : Value) (h : RecsIn W W.heap.size u l) => iAtLeast h (n + 5))
  have K3 := hid (fun (hz : recsOk l = true) (W : World) (u : Value) (h : RecsIn W W.heap.size u (atLX l n)) => (show Calls Try.prog 12 #[u, .int .i64 n] W (RecsOut W (atLX l n)) by have := iAtLeast h n; rwa [atLX_up hz n n (by omega)] at this))
  have K4 := hid (fun (hz : recsOk l = true) (W : World) (u : Value) (h : RecsIn W W.heap.size u l) => (show Calls Try.prog 12 #[u, .int .i64 1] W (RecsOut W l) by have := iAtLeast h 1; rwa [atLX_one hz] at this))
  have FP := hid (atLX_fit FL.out (n + 5))
  generalize atLX l n = Y at *
  generalize atLX l (n + 5) = Z at *
  generalize recsOk l = q at *
  have F1 := FO
  have G1 := FP
  clear FO FP
  go_wp2_with fail
  refine (C1.out _ _ (SL.out.at_ (HR.out) FL.out)).mono ?_
  rintro e w2 ⟨u, rsO, rfl, hs0, hr, hb⟩
  obtain ⟨fO0, fO1, fO2, rfl⟩ := hs0.form hr
  have SO := hid hs0
  clear hs0
  replace HR := hid (HR.out.newer hb hr HB.out.size)
  replace HB := hid (HB.out.trans (hb.mono HB.out.size))
  clear hb hr
  have FO := hid F1.out
  go_wp2_with fail
  refine (C2.out _ _ (SL.out.at_ (HR.out.right) FL.out)).mono ?_
  rintro e w3 ⟨u, rsW, rfl, hs0, hr, hb⟩
  obtain ⟨fW0, fW1, fW2, rfl⟩ := hs0.form hr
  have SW := hid hs0
  clear hs0
  replace HR := hid (HR.out.newer hb hr HB.out.size)
  replace HB := hid (HB.out.trans (hb.mono HB.out.size))
  clear hb hr
  have FW := hid F1.out
  go_wp2_with fail
  refine (equalRecsX_c SO.out (HR.out.right.left) SW.out (HR.out.left)).mono ?_
  rintro e w4 ⟨rfl, hb⟩
  replace HR := hid (HR.out.below hb)
  replace HB := hid (HB.out.trans (hb.mono HB.out.size))
  clear hb
  replace HR := hid (HR.out.sub (List.sublist_append_right _ _))
  clear SW
  go_wp2_with fail
  refine (C3.out _ _ (SL.out.at_ (HR.out.right) FL.out)).mono ?_
  rintro e w5 ⟨rfl, hb⟩
  replace HR := hid (HR.out.below hb)
  replace HB := hid (HB.out.trans (hb.mono HB.out.size))
  clear hb
  cases q
  · go_wp2_with fail
    refine (C2.out _ _ (SL.out.at_ (HR.out.right) FL.out)).mono ?_
    rintro e w6 ⟨u, rsV, rfl, hs0, hr, hb⟩
    obtain ⟨fV0, fV1, fV2, rfl⟩ := hs0.form hr
    have SV := hid hs0
    clear hs0
    replace HR := hid (HR.out.newer hb hr HB.out.size)
    replace HB := hid (HB.out.trans (hb.mono HB.out.size))
    clear hb hr
    have FV := hid F1.out
    go_wp2_with fail
    refine (equalRecsX_c SO.out (HR.out.right.left) SV.out (HR.out.left)).mono ?_
    rintro e w7 ⟨rfl, hb⟩
    replace HR := hid (HR.out.below hb)
    replace HB := hid (HB.out.trans (hb.mono HB.out.size))
    clear hb
    go_wp2_with fail
    go_ret
    exact ⟨rfl, HB.out⟩
  · replace K1 := hid (K1.out rfl)
    replace K3 := hid (K3.out rfl)
    replace K4 := hid (K4.out rfl)
    go_wp2_with fail
    refine (K1.out _ _ (SO.out.at_ (HR.out.left) FO.out)).mono ?_
    rintro e w6 ⟨u, rsP, rfl, hs0, hr, hb⟩
    obtain ⟨fP0, fP1, fP2, rfl⟩ := hs0.form hr
    have SP := hid hs0
    clear hs0
    replace HR := hid (HR.out.newer hb hr HB.out.size)
    replace HB := hid (HB.out.trans (hb.mono HB.out.size))
    clear hb hr
    have FP := hid G1.out
    go_wp2_with fail
    refine (K2.out _ _ (SL.out.at_ (HR.out.right.right) FL.out)).mono ?_
    rintro e w7 ⟨u, rsQ, rfl, hs0, hr, hb⟩
    obtain ⟨fQ0, fQ1, fQ2, rfl⟩ := hs0.form hr
    have SQ := hid hs0
    clear hs0
    replace HR := hid (HR.out.newer hb hr HB.out.size)
    replace HB := hid (HB.out.trans (hb.mono HB.out.size))
    clear hb hr
    have FQ := hid G1.out
    go_wp2_with fail
    refine (equalRecsX_c SP.out (HR.out.right.left) SQ.out (HR.out.left)).mono ?_
    rintro e w8 ⟨rfl, hb⟩
    replace HR := hid (HR.out.below hb)
    replace HB := hid (HB.out.trans (hb.mono HB.out.size))
    clear hb
    replace HR := hid (HR.out.sub ((List.Sublist.refl _).append (List.sublist_append_right _ _)))
    clear SP
    replace HR := hid (HR.out.sub (List.sublist_append_right _ _))
    clear SQ
    go_wp2_with fail
    refine (K3.out _ _ (SO.out.at_ (HR.out.left) FO.out)).mono ?_
    rintro e w9 ⟨u, rsM, rfl, hs0, hr, hb⟩
    obtain ⟨fM0, fM1, fM2, rfl⟩ := hs0.form hr
    have SM := hid hs0
    clear hs0
    replace HR := hid (HR.out.newer hb hr HB.out.size)
    replace HB := hid (HB.out.trans (hb.mono HB.out.size))
    clear hb hr
    have FM := hid F1.out
    go_wp2_with fail
    refine (equalRecsX_c SM.out (HR.out.left) SO.out (HR.out.right.left)).mono ?_
    rintro e w10 ⟨rfl, hb⟩
    replace HR := hid (HR.out.below hb)
    replace HB := hid (HB.out.trans (hb.mono HB.out.size))
    clear hb
    replace HR := hid (HR.out.sub (List.sublist_append_right _ _))
    clear SM
    go_wp2_with fail
    refine (K4.out _ _ (SL.out.at_ (HR.out.right) FL.out)).mono ?_
    rintro e w11 ⟨u, rsT, rfl, hs0, hr, hb⟩
    obtain ⟨fT0, fT1, fT2, rfl⟩ := hs0.form hr
    have ST := hid hs0
    clear hs0
    replace HR := hid (HR.out.newer hb hr HB.out.size)
    replace HB := hid (HB.out.trans (hb.mono HB.out.size))
    clear hb hr
    have FT := hid FL.out
    go_wp2_with fail
    refine (equalRecsX_c ST.out (HR.out.left) SL.out (HR.out.right.right)).mono ?_
    rintro e w12 ⟨rfl, hb⟩
    replace HR := hid (HR.out.below hb)
    replace HB := hid (HB.out.trans (hb.mono HB.out.size))
    clear hb
    go_wp2_with fail
    go_ret
    exact ⟨rfl, HB.out⟩
end Go.Proofs.Ythgkkckbncgfmaa
