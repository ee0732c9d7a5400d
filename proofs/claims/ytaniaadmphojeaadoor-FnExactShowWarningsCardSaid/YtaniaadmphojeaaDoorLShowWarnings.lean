/-
  WALK: the law FnExactShowWarnings. By gen_any.py.
-/
import Derived.Deep.Cut
import Derived.Test.YtaniaadmphojeaaDoorSW4
import Derived.Test.YtaniaadmphojeaaDoorApp
import Derived.Test.YtaniaadmphojeaaDoorKRules
import Derived.Test.YtaniaadmphojeaaDoorKWrns
import Derived.Test.YtaniaadmphojeaaDoorKInts
namespace Go.Proofs.YtaniaadmphojeaaDoor
open Go.RowKit Go.Proofs.YtaniaadmphojeaaDoor.Nm
set_option linter.unusedSimpArgs false
set_option linter.unusedVariables false

set_option maxHeartbeats 16000000 in
set_option maxRecDepth 100000 in
theorem walk_FnExactShowWarnings (A0 : Option Addr) (n0 c0 : Nat) (d0 : List Rul) (A1 : Option Addr) (n1 c1 : Nat) (d1 : List Wrn) (w : World) (t0 : RulesRaw w w.heap.size A0 n0 c0 d0) (t1 : WrnsRaw w w.heap.size A1 n1 c1 d1) :
    Calls Tryd.prog 3 #[.slice A0 n0 c0, .slice A1 n1 c1] w (BoolPost w true) := by
  have T0 := hid t0
  clear t0
  have T1 := hid t1
  clear t1
  have HB := hid (Below.refl w.heap.size w)
  go_enter Tryd.func3, Tryd.ntmps3
  go_wp2_with fail
  refine (szRulesY_c A0 n0 c0 d0 w.heap.size _ _ (T0.out.below HB.out (Nat.le_refl _)) HB.out.size (by omega) (by omega)).mono ?_
  rintro e w1 ⟨r0, rfl, hb, hr⟩
  replace HB := hid (HB.out.trans (hb.mono HB.out.size))
  clear hb
  rcases hr with hr | ⟨hr0, hr1, hfit⟩
  · go_wp2_with fail
    go_ret
    exact ⟨rfl, HB.out⟩
  have F0 := hid hfit
  clear hfit
  go_wp2_with fail
  refine (szWrnsY_c A1 n1 c1 d1 w.heap.size _ _ (T1.out.below HB.out (Nat.le_refl _)) HB.out.size (by omega) (by omega)).mono ?_
  rintro e w2 ⟨r1, rfl, hb, hr⟩
  replace HB := hid (HB.out.trans (hb.mono HB.out.size))
  clear hb
  rcases hr with hr | ⟨hr0, hr1, hfit⟩
  · go_wp2_with fail
    go_ret
    exact ⟨rfl, HB.out⟩
  have F1 := hid hfit
  clear hfit
  have cS : ∀ (W : World) (v0 : Value) (h0 : RulesIn W W.heap.size v0 d0) (v1 : Value) (h1 : WrnsIn W W.heap.size v1 d1), Calls Tryd.prog 9 #[v0, v1] W (fun e w2 => ∃ (u0 : Value) (rs0 : List Row), e = .returned (.tuple #[u0, .bool ((shX d0 d1).2)]) ∧ IntsR rs0 u0 ((shX d0 d1).1) ∧ Rows w2 W.heap.size (rs0) ∧ Below W.heap.size W w2) := fun W v0 h0 v1 h1 => specShow_c h0 h1 (Nat.le_refl _)
  have cI : ∀ (W : World) (v0 : Value) (h0 : RulesIn W W.heap.size v0 d0) (v1 : Value) (h1 : WrnsIn W W.heap.size v1 d1), Calls Tryd.prog 12 #[v0, v1] W (fun e w2 => ∃ (u0 : Value) (rs0 : List Row), e = .returned (.tuple #[u0, .bool ((shX d0 d1).2)]) ∧ IntsR rs0 u0 ((shX d0 d1).1) ∧ Rows w2 W.heap.size (rs0) ∧ Below W.heap.size W w2) := fun W v0 h0 v1 h1 => implShow_c h0 h1 (Nat.le_refl _)
  have DX0 : IntsFit ((shX d0 d1).1) := (show (shX d0 d1).1.length ≤ maxTxt by have := shX_len d0 d1; unfold maxTxt; omega)
  generalize (shX d0 d1).1 = X0 at cS cI DX0
  replace DX0 := hid DX0
  generalize (shX d0 d1).2 = X1 at cS cI
  have hX1 : (X1 == X1) = true := by simp
  replace cS := hid cS
  replace cI := hid cI
  go_wp2_with fail
  refine (toRulesY_c A0 n0 c0 d0 w.heap.size _ (T0.out.below HB.out (Nat.le_refl _)) HB.out.size F0.out).mono ?_
  rintro e w3 ⟨v, rss0, rfl, hs, hr, hb⟩
  obtain ⟨fs00, fs01, fs02, rfl⟩ := hs.form hr
  have Ss0 := hid hs
  clear hs
  have HR := hid (hr.base HB.out.size)
  replace HB := hid (HB.out.trans (hb.mono HB.out.size))
  clear hb hr
  go_wp2_with fail
  refine (toWrnsY_c A1 n1 c1 d1 w.heap.size _ (T1.out.below HB.out (Nat.le_refl _)) HB.out.size F1.out).mono ?_
  rintro e w4 ⟨v, rss1, rfl, hs, hr, hb⟩
  obtain ⟨fs10, fs11, fs12, rfl⟩ := hs.form hr
  have Ss1 := hid hs
  clear hs
  replace HR := hid (HR.out.newer hb hr HB.out.size)
  replace HB := hid (HB.out.trans (hb.mono HB.out.size))
  clear hb hr
  go_wp2_with fail
  refine (cS.out _ _ (Ss0.out.at_ (HR.out.right) F0.out) _ (Ss1.out.at_ (HR.out.left) F1.out)).mono ?_
  rintro e w5 ⟨v0, rsW0, rfl, hs0, hr, hb⟩
  obtain ⟨fW00, fW01, fW02, rfl⟩ := hs0.form hr
  have SW0 := hid hs0
  clear hs0
  replace HR := hid (HR.out.newer hb hr HB.out.size)
  replace HB := hid (HB.out.trans (hb.mono HB.out.size))
  clear hb hr
  replace HR := hid (HR.out.sub ((List.Sublist.refl _).append (List.sublist_append_left _ _)))
  clear Ss0
  replace HR := hid (HR.out.sub (List.sublist_append_left _ _))
  clear Ss1
  go_wp2_with fail
  refine (toRulesY_c A0 n0 c0 d0 w.heap.size _ (T0.out.below HB.out (Nat.le_refl _)) HB.out.size F0.out).mono ?_
  rintro e w6 ⟨v, rsx0, rfl, hs, hr, hb⟩
  obtain ⟨fx00, fx01, fx02, rfl⟩ := hs.form hr
  have Sx0 := hid hs
  clear hs
  replace HR := hid (HR.out.newer hb hr HB.out.size)
  replace HB := hid (HB.out.trans (hb.mono HB.out.size))
  clear hb hr
  go_wp2_with fail
  refine (toWrnsY_c A1 n1 c1 d1 w.heap.size _ (T1.out.below HB.out (Nat.le_refl _)) HB.out.size F1.out).mono ?_
  rintro e w7 ⟨v, rsx1, rfl, hs, hr, hb⟩
  obtain ⟨fx10, fx11, fx12, rfl⟩ := hs.form hr
  have Sx1 := hid hs
  clear hs
  replace HR := hid (HR.out.newer hb hr HB.out.size)
  replace HB := hid (HB.out.trans (hb.mono HB.out.size))
  clear hb hr
  go_wp2_with fail
  refine (cI.out _ _ (Sx0.out.at_ (HR.out.right.left) F0.out) _ (Sx1.out.at_ (HR.out.left) F1.out)).mono ?_
  rintro e w8 ⟨v0, rsG0, rfl, hs0, hr, hb⟩
  obtain ⟨fG00, fG01, fG02, rfl⟩ := hs0.form hr
  have SG0 := hid hs0
  clear hs0
  replace HR := hid (HR.out.newer hb hr HB.out.size)
  replace HB := hid (HB.out.trans (hb.mono HB.out.size))
  clear hb hr
  go_wp2_with fail
  refine (eqIntsX_c SG0.out (HR.out.left) SW0.out (HR.out.right.right.right)).mono ?_
  rintro e w9 ⟨rfl, hb⟩
  replace HR := hid (HR.out.below hb)
  replace HB := hid (HB.out.trans (hb.mono HB.out.size))
  clear hb
  go_wp2_with fail
  refine (toRulesY_c A0 n0 c0 d0 w.heap.size _ (T0.out.below HB.out (Nat.le_refl _)) HB.out.size F0.out).mono ?_
  rintro e w10 ⟨v, rsy0, rfl, hs, hr, hb⟩
  obtain ⟨fy00, fy01, fy02, rfl⟩ := hs.form hr
  have Sy0 := hid hs
  clear hs
  replace HR := hid (HR.out.newer hb hr HB.out.size)
  replace HB := hid (HB.out.trans (hb.mono HB.out.size))
  clear hb hr
  go_wp2_with fail
  refine (eqRulesX_c Sx0.out (HR.out.right.right.right.left) Sy0.out (HR.out.left)).mono ?_
  rintro e w11 ⟨rfl, hb⟩
  replace HR := hid (HR.out.below hb)
  replace HB := hid (HB.out.trans (hb.mono HB.out.size))
  clear hb
  replace HR := hid (HR.out.sub (List.sublist_append_right _ _))
  clear Sy0
  go_wp2_with fail
  refine (toWrnsY_c A1 n1 c1 d1 w.heap.size _ (T1.out.below HB.out (Nat.le_refl _)) HB.out.size F1.out).mono ?_
  rintro e w12 ⟨v, rsy1, rfl, hs, hr, hb⟩
  obtain ⟨fy10, fy11, fy12, rfl⟩ := hs.form hr
  have Sy1 := hid hs
  clear hs
  replace HR := hid (HR.out.newer hb hr HB.out.size)
  replace HB := hid (HB.out.trans (hb.mono HB.out.size))
  clear hb hr
  go_wp2_with fail
  refine (eqWrnsX_c Sx1.out (HR.out.right.right.left) Sy1.out (HR.out.left)).mono ?_
  rintro e w13 ⟨rfl, hb⟩
  replace HR := hid (HR.out.below hb)
  replace HB := hid (HB.out.trans (hb.mono HB.out.size))
  clear hb
  replace HR := hid (HR.out.sub (List.sublist_append_right _ _))
  clear Sy1
  replace HR := hid (HR.out.perm (((List.perm_append_comm_assoc _ _ _).append_left _).trans (List.perm_append_comm_assoc _ _ _)))
  go_wp2_with fail
  refine (markRulesX_c (k := 1) Sx0.out HR.out HB.out.size F0.out (by omega)).mono ?_
  rintro e w14 ⟨rx0, rsx0, rfl, hM, hr, hb, hlx0⟩
  replace HR := hid hr
  replace HB := hid (HB.out.trans hb)
  have Mx0 := hid hM
  clear hr hb hM Sx0
  replace HR := hid (HR.out.perm (((List.perm_append_comm_assoc _ _ _).append_left _).trans (List.perm_append_comm_assoc _ _ _)))
  go_wp2_with fail
  refine (markWrnsX_c (k := rx0) Sx1.out HR.out HB.out.size F1.out (by omega)).mono ?_
  rintro e w15 ⟨rx1, rsx1, rfl, hM, hr, hb, hlx1⟩
  replace HR := hid hr
  replace HB := hid (HB.out.trans hb)
  have Mx1 := hid hM
  clear hr hb hM Sx1
  replace HR := hid (HR.out.sub ((List.Sublist.refl _).append (List.sublist_append_right _ _)))
  clear Mx0
  replace HR := hid (HR.out.sub (List.sublist_append_right _ _))
  clear Mx1
  go_wp2_with fail
  refine (eqIntsX_c SG0.out (HR.out.left) SW0.out (HR.out.right)).mono ?_
  rintro e w16 ⟨rfl, hb⟩
  replace HR := hid (HR.out.below hb)
  replace HB := hid (HB.out.trans (hb.mono HB.out.size))
  clear hb
  go_wp2_with fail
  refine (markIntsX_c (k := 1) SG0.out HR.out HB.out.size DX0.out (by omega)).mono ?_
  rintro e w17 ⟨rG0, rsG0, rfl, hM, hr, hb, hlG0⟩
  replace HR := hid hr
  replace HB := hid (HB.out.trans hb)
  have MG0 := hid hM
  clear hr hb hM SG0
  go_wp2_with fail
  refine (heldIntsX_c MG0.out (HR.out.left)).mono ?_
  rintro e w18 ⟨rfl, hb⟩
  replace HR := hid (HR.out.below hb)
  replace HB := hid (HB.out.trans (hb.mono HB.out.size))
  clear hb
  go_wp2_with fail
  refine (toRulesY_c A0 n0 c0 d0 w.heap.size _ (T0.out.below HB.out (Nat.le_refl _)) HB.out.size F0.out).mono ?_
  rintro e w19 ⟨v, rsz0, rfl, hs, hr, hb⟩
  obtain ⟨fz00, fz01, fz02, rfl⟩ := hs.form hr
  have Sz0 := hid hs
  clear hs
  replace HR := hid (HR.out.newer hb hr HB.out.size)
  replace HB := hid (HB.out.trans (hb.mono HB.out.size))
  clear hb hr
  go_wp2_with fail
  refine (toWrnsY_c A1 n1 c1 d1 w.heap.size _ (T1.out.below HB.out (Nat.le_refl _)) HB.out.size F1.out).mono ?_
  rintro e w20 ⟨v, rsz1, rfl, hs, hr, hb⟩
  obtain ⟨fz10, fz11, fz12, rfl⟩ := hs.form hr
  have Sz1 := hid hs
  clear hs
  replace HR := hid (HR.out.newer hb hr HB.out.size)
  replace HB := hid (HB.out.trans (hb.mono HB.out.size))
  clear hb hr
  go_wp2_with fail
  refine (cI.out _ _ (Sz0.out.at_ (HR.out.right.left) F0.out) _ (Sz1.out.at_ (HR.out.left) F1.out)).mono ?_
  rintro e w21 ⟨v0, rsh0, rfl, hs0, hr, hb⟩
  obtain ⟨fh00, fh01, fh02, rfl⟩ := hs0.form hr
  have Sh0 := hid hs0
  clear hs0
  replace HR := hid (HR.out.newer hb hr HB.out.size)
  replace HB := hid (HB.out.trans (hb.mono HB.out.size))
  clear hb hr
  replace HR := hid (HR.out.sub ((List.Sublist.refl _).append ((List.Sublist.refl _).append (List.sublist_append_right _ _))))
  clear Sz0
  replace HR := hid (HR.out.sub ((List.Sublist.refl _).append (List.sublist_append_right _ _)))
  clear Sz1
  go_wp2_with fail
  refine (eqIntsX_c Sh0.out (HR.out.left) SW0.out (HR.out.right.right)).mono ?_
  rintro e w22 ⟨rfl, hb⟩
  replace HR := hid (HR.out.below hb)
  replace HB := hid (HB.out.trans (hb.mono HB.out.size))
  clear hb
  go_wp2_with fail
  refine (heldIntsX_c MG0.out (HR.out.right.left)).mono ?_
  rintro e w23 ⟨rfl, hb⟩
  replace HR := hid (HR.out.below hb)
  replace HB := hid (HB.out.trans (hb.mono HB.out.size))
  clear hb
  go_wp2_with fail
  go_ret
  exact ⟨rfl, HB.out⟩
end Go.Proofs.YtaniaadmphojeaaDoor
