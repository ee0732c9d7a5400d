/-
  WALK: the law FnExactFlatFields. By gen_any.py.
-/
import Derived.Deep.Cut
import Derived.Test.YtmadcocbncmpoaaFF2
import Derived.Test.YtmadcocbncmpoaaApp
import Derived.Test.YtmadcocbncmpoaaKFldss
import Derived.Test.YtmadcocbncmpoaaKFlds
namespace Go.Proofs.Ytmadcocbncmpoaa
open Go.RowKit Nm
set_option linter.unusedSimpArgs false
set_option linter.unusedVariables false

set_option maxHeartbeats 16000000 in
set_option maxRecDepth 100000 in
theorem walk_FnExactFlatFields (A0 : Option Addr) (n0 c0 : Nat) (d0 : FldssD) (w : World) (t0 : FldssRaw w w.heap.size A0 n0 c0 d0) :
    Calls Try.prog 3 #[.slice A0 n0 c0] w (BoolPost w true) := by
  have T0 := hid t0
  clear t0
  have HB := hid (Below.refl w.heap.size w)
  go_enter Try.func3, Try.ntmps3
  go_wp2_with fail
  refine (szFldssY_c A0 n0 c0 d0 w.heap.size _ _ (T0.out.below HB.out (Nat.le_refl _)) HB.out.size (by omega) (by omega)).mono ?_
  rintro e w1 ⟨r0, rfl, hb, hr⟩
  replace HB := hid (HB.out.trans (hb.mono HB.out.size))
  clear hb
  rcases hr with hr | ⟨hr0, hr1, hfit⟩
  · go_wp2_with fail
    go_ret
    exact ⟨rfl, HB.out⟩
  have F0 := hid hfit
  clear hfit
  have cS : ∀ (W : World) (v0 : Value) (h0 : FldssIn W W.heap.size v0 d0), Calls Try.prog 5 #[v0] W (fun e w2 => ∃ (u0 : Value) (rs0 : List Row), e = .returned (u0) ∧ FldsR rs0 u0 (ffX d0) ∧ Rows w2 W.heap.size (rs0) ∧ Below W.heap.size W w2) := fun W v0 h0 => specFlatX_c h0
  have cI : ∀ (W : World) (v0 : Value) (h0 : FldssIn W W.heap.size v0 d0), Calls Try.prog 7 #[v0] W (fun e w2 => ∃ (u0 : Value) (rs0 : List Row), e = .returned (u0) ∧ FldsR rs0 u0 (ffX d0) ∧ Rows w2 W.heap.size (rs0) ∧ Below W.heap.size W w2) := fun W v0 h0 => implFlatX_c h0
  have DX0 : FldsFit (ffX d0) := ffX_fit (fun l hl x hx => (F0.out.2 l hl).2 x hx)
  generalize ffX d0 = X0 at cS cI DX0
  replace DX0 := hid DX0
  replace cS := hid cS
  replace cI := hid cI
  go_wp2_with fail
  refine (toFldssY_c A0 n0 c0 d0 w.heap.size _ (T0.out.below HB.out (Nat.le_refl _)) HB.out.size F0.out).mono ?_
  rintro e w2 ⟨v, rss0, rfl, hs, hr, hb⟩
  obtain ⟨fs00, fs01, fs02, rfl⟩ := hs.form hr
  have Ss0 := hid hs
  clear hs
  have HR := hid (hr.base HB.out.size)
  replace HB := hid (HB.out.trans (hb.mono HB.out.size))
  clear hb hr
  go_wp2_with fail
  refine (cS.out _ _ (Ss0.out.at_ (HR.out) F0.out)).mono ?_
  rintro e w3 ⟨v0, rsW0, rfl, hs0, hr, hb⟩
  obtain ⟨fW00, fW01, fW02, rfl⟩ := hs0.form hr
  have SW0 := hid hs0
  clear hs0
  replace HR := hid (HR.out.newer hb hr HB.out.size)
  replace HB := hid (HB.out.trans (hb.mono HB.out.size))
  clear hb hr
  replace HR := hid (HR.out.sub (List.sublist_append_left _ _))
  clear Ss0
  go_wp2_with fail
  refine (toFldssY_c A0 n0 c0 d0 w.heap.size _ (T0.out.below HB.out (Nat.le_refl _)) HB.out.size F0.out).mono ?_
  rintro e w4 ⟨v, rsx0, rfl, hs, hr, hb⟩
  obtain ⟨fx00, fx01, fx02, rfl⟩ := hs.form hr
  have Sx0 := hid hs
  clear hs
  replace HR := hid (HR.out.newer hb hr HB.out.size)
  replace HB := hid (HB.out.trans (hb.mono HB.out.size))
  clear hb hr
  go_wp2_with fail
  refine (cI.out _ _ (Sx0.out.at_ (HR.out.left) F0.out)).mono ?_
  rintro e w5 ⟨v0, rsG0, rfl, hs0, hr, hb⟩
  obtain ⟨fG00, fG01, fG02, rfl⟩ := hs0.form hr
  have SG0 := hid hs0
  clear hs0
  replace HR := hid (HR.out.newer hb hr HB.out.size)
  replace HB := hid (HB.out.trans (hb.mono HB.out.size))
  clear hb hr
  go_wp2_with fail
  refine (eqFldsX_c SG0.out (HR.out.left) SW0.out (HR.out.right.right)).mono ?_
  rintro e w6 ⟨rfl, hb⟩
  replace HR := hid (HR.out.below hb)
  replace HB := hid (HB.out.trans (hb.mono HB.out.size))
  clear hb
  go_wp2_with fail
  refine (toFldssY_c A0 n0 c0 d0 w.heap.size _ (T0.out.below HB.out (Nat.le_refl _)) HB.out.size F0.out).mono ?_
  rintro e w7 ⟨v, rsy0, rfl, hs, hr, hb⟩
  obtain ⟨fy00, fy01, fy02, rfl⟩ := hs.form hr
  have Sy0 := hid hs
  clear hs
  replace HR := hid (HR.out.newer hb hr HB.out.size)
  replace HB := hid (HB.out.trans (hb.mono HB.out.size))
  clear hb hr
  go_wp2_with fail
  refine (eqFldssX_c Sx0.out (HR.out.right.right.left) Sy0.out (HR.out.left)).mono ?_
  rintro e w8 ⟨rfl, hb⟩
  replace HR := hid (HR.out.below hb)
  replace HB := hid (HB.out.trans (hb.mono HB.out.size))
  clear hb
  replace HR := hid (HR.out.sub (List.sublist_append_right _ _))
  clear Sy0
  replace HR := hid (HR.out.perm (List.perm_append_comm_assoc _ _ _))
  go_wp2_with fail
  refine (markFldssX_c (k := 1) Sx0.out HR.out HB.out.size F0.out (by omega)).mono ?_
  rintro e w9 ⟨rx0, rsx0, rfl, hM, hr, hb, hlx0⟩
  replace HR := hid hr
  replace HB := hid (HB.out.trans hb)
  have Mx0 := hid hM
  clear hr hb hM Sx0
  replace HR := hid (HR.out.sub (List.sublist_append_right _ _))
  clear Mx0
  go_wp2_with fail
  refine (eqFldsX_c SG0.out (HR.out.left) SW0.out (HR.out.right)).mono ?_
  rintro e w10 ⟨rfl, hb⟩
  replace HR := hid (HR.out.below hb)
  replace HB := hid (HB.out.trans (hb.mono HB.out.size))
  clear hb
  go_wp2_with fail
  refine (markFldsX_c (k := 1) SG0.out HR.out HB.out.size DX0.out (by omega)).mono ?_
  rintro e w11 ⟨rG0, rsG0, rfl, hM, hr, hb, hlG0⟩
  replace HR := hid hr
  replace HB := hid (HB.out.trans hb)
  have MG0 := hid hM
  clear hr hb hM SG0
  go_wp2_with fail
  refine (heldFldsX_c MG0.out (HR.out.left)).mono ?_
  rintro e w12 ⟨rfl, hb⟩
  replace HR := hid (HR.out.below hb)
  replace HB := hid (HB.out.trans (hb.mono HB.out.size))
  clear hb
  go_wp2_with fail
  refine (toFldssY_c A0 n0 c0 d0 w.heap.size _ (T0.out.below HB.out (Nat.le_refl _)) HB.out.size F0.out).mono ?_
  rintro e w13 ⟨v, rsz0, rfl, hs, hr, hb⟩
  obtain ⟨fz00, fz01, fz02, rfl⟩ := hs.form hr
  have Sz0 := hid hs
  clear hs
  replace HR := hid (HR.out.newer hb hr HB.out.size)
  replace HB := hid (HB.out.trans (hb.mono HB.out.size))
  clear hb hr
  go_wp2_with fail
  refine (cI.out _ _ (Sz0.out.at_ (HR.out.left) F0.out)).mono ?_
  rintro e w14 ⟨v0, rsh0, rfl, hs0, hr, hb⟩
  obtain ⟨fh00, fh01, fh02, rfl⟩ := hs0.form hr
  have Sh0 := hid hs0
  clear hs0
  replace HR := hid (HR.out.newer hb hr HB.out.size)
  replace HB := hid (HB.out.trans (hb.mono HB.out.size))
  clear hb hr
  replace HR := hid (HR.out.sub ((List.Sublist.refl _).append (List.sublist_append_right _ _)))
  clear Sz0
  go_wp2_with fail
  refine (eqFldsX_c Sh0.out (HR.out.left) SW0.out (HR.out.right.right)).mono ?_
  rintro e w15 ⟨rfl, hb⟩
  replace HR := hid (HR.out.below hb)
  replace HB := hid (HB.out.trans (hb.mono HB.out.size))
  clear hb
  go_wp2_with fail
  refine (heldFldsX_c MG0.out (HR.out.right.left)).mono ?_
  rintro e w16 ⟨rfl, hb⟩
  replace HR := hid (HR.out.below hb)
  replace HB := hid (HB.out.trans (hb.mono HB.out.size))
  clear hb
  go_wp2_with fail
  go_ret
  exact ⟨rfl, HB.out⟩
end Go.Proofs.Ytmadcocbncmpoaa
