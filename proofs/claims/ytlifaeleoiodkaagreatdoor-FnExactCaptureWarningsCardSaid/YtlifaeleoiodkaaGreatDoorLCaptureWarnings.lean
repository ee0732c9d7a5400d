/-
  WALK: the law FnExactCaptureWarnings. By gen_any.py.
-/
import Derived.Deep.Cut
import Derived.Test.YtlifaeleoiodkaaGreatDoorCP2
import Derived.Test.YtlifaeleoiodkaaGreatDoorApp
import Derived.Test.YtlifaeleoiodkaaGreatDoorKTre
import Derived.Test.YtlifaeleoiodkaaGreatDoorKRules
import Derived.Test.YtlifaeleoiodkaaGreatDoorKWrns
import Derived.Test.YtlifaeleoiodkaaGreatDoorKSents
namespace Go.Proofs.YtlifaeleoiodkaaGreatDoor
open Go.RowKit Go.Proofs.YtlifaeleoiodkaaGreatDoor.Nm
set_option linter.unusedSimpArgs false
set_option linter.unusedVariables false

set_option maxHeartbeats 16000000 in
set_option maxRecDepth 100000 in
theorem walk_FnExactCaptureWarnings (Aa0 : Option Addr) (na0 ca0 : Nat) (Ab0 : Option Addr) (nb0 cb0 : Nat) (d0 : TreeD) (A1 : Option Addr) (n1 c1 : Nat) (d1 : List Rul) (A2 : Option Addr) (n2 c2 : Nat) (d2 : List Wrn) (w : World) (t0 : TreRaw w w.heap.size Aa0 na0 ca0 Ab0 nb0 cb0 d0) (t1 : RulesRaw w w.heap.size A1 n1 c1 d1) (t2 : WrnsRaw w w.heap.size A2 n2 c2 d2) :
    Calls Tryz.prog 3 #[.agg #[.slice Aa0 na0 ca0, .slice Ab0 nb0 cb0, .int .i64 d0.2.2], .slice A1 n1 c1, .slice A2 n2 c2] w (BoolPost w true) := by
  have T0 := hid t0
  clear t0
  have T1 := hid t1
  clear t1
  have T2 := hid t2
  clear t2
  have HB := hid (Below.refl w.heap.size w)
  have hr : Rows (w.alloc (.cells #[.slice Aa0 na0 ca0, .slice Ab0 nb0 cb0, .int .i64 d0.2.2] 25)) w.heap.size [bxRow 25 3 (w.heap.size) [.slice Aa0 na0 ca0, .slice Ab0 nb0 cb0, .int .i64 d0.2.2]] := by have h := Rows.box w #[.slice Aa0 na0 ca0, .slice Ab0 nb0 cb0, .int .i64 d0.2.2] 25 3 rfl; simpa using h
  have hb : Below w.heap.size w (w.alloc (.cells #[.slice Aa0 na0 ca0, .slice Ab0 nb0 cb0, .int .i64 d0.2.2] 25)) := (Below.refl _ _).alloc (Nat.le_refl _) _
  have HR := hid hr
  replace HB := hid (HB.out.trans (hb.mono HB.out.size))
  clear hb hr
  have da00 := (Rows.bc (HR.out) 0 rfl).1
  have da01 := (Rows.bc (HR.out) 1 rfl).1
  have da02 := (Rows.bc (HR.out) 2 rfl).1
  have ta0 := (Rows.bc (HR.out) 0 rfl).2
  go_enter Tryz.func3, Tryz.ntmps3
  go_wp2_with fail
  refine (szTreY_c Aa0 na0 ca0 Ab0 nb0 cb0 d0 w.heap.size _ _ (T0.out.below HB.out (Nat.le_refl _)) HB.out.size (by omega) (by omega)).mono ?_
  rintro e w1 ⟨r0, rfl, hb, hr⟩
  replace HR := hid (HR.out.below hb)
  replace HB := hid (HB.out.trans (hb.mono HB.out.size))
  clear hb
  clear da00 da01 da02 ta0
  have da00 := (Rows.bc (HR.out) 0 rfl).1
  have da01 := (Rows.bc (HR.out) 1 rfl).1
  have da02 := (Rows.bc (HR.out) 2 rfl).1
  have ta0 := (Rows.bc (HR.out) 0 rfl).2
  rcases hr with hr | ⟨hr0, hr1, hfit⟩
  · go_wp2_with fail
    go_ret
    exact ⟨rfl, HB.out⟩
  have F0 := hid hfit
  clear hfit
  go_wp2_with fail
  refine (szRulesY_c A1 n1 c1 d1 w.heap.size _ _ (T1.out.below HB.out (Nat.le_refl _)) HB.out.size (by omega) (by omega)).mono ?_
  rintro e w2 ⟨r1, rfl, hb, hr⟩
  replace HR := hid (HR.out.below hb)
  replace HB := hid (HB.out.trans (hb.mono HB.out.size))
  clear hb
  clear da00 da01 da02 ta0
  have da00 := (Rows.bc (HR.out) 0 rfl).1
  have da01 := (Rows.bc (HR.out) 1 rfl).1
  have da02 := (Rows.bc (HR.out) 2 rfl).1
  have ta0 := (Rows.bc (HR.out) 0 rfl).2
  rcases hr with hr | ⟨hr0, hr1, hfit⟩
  · go_wp2_with fail
    go_ret
    exact ⟨rfl, HB.out⟩
  have F1 := hid hfit
  clear hfit
  go_wp2_with fail
  refine (szWrnsY_c A2 n2 c2 d2 w.heap.size _ _ (T2.out.below HB.out (Nat.le_refl _)) HB.out.size (by omega) (by omega)).mono ?_
  rintro e w3 ⟨r2, rfl, hb, hr⟩
  replace HR := hid (HR.out.below hb)
  replace HB := hid (HB.out.trans (hb.mono HB.out.size))
  clear hb
  clear da00 da01 da02 ta0
  have da00 := (Rows.bc (HR.out) 0 rfl).1
  have da01 := (Rows.bc (HR.out) 1 rfl).1
  have da02 := (Rows.bc (HR.out) 2 rfl).1
  have ta0 := (Rows.bc (HR.out) 0 rfl).2
  rcases hr with hr | ⟨hr0, hr1, hfit⟩
  · go_wp2_with fail
    go_ret
    exact ⟨rfl, HB.out⟩
  have F2 := hid hfit
  clear hfit
  have cS : ∀ (W : World) (v0 : Value) (h0 : TreIn W W.heap.size v0 d0) (v1 : Value) (h1 : RulesIn W W.heap.size v1 d1) (v2 : Value) (h2 : WrnsIn W W.heap.size v2 d2), Calls Tryz.prog 8 #[v0, v1, v2] W (fun e w2 => ∃ (u0 : Value) (rs0 : List Row), e = .returned (u0) ∧ SentsR rs0 u0 (capX d0.1 d0.2.1 d0.2.2 d1 d2) ∧ Rows w2 W.heap.size (rs0) ∧ Below W.heap.size W w2) := fun W v0 h0 v1 h1 v2 h2 => specCaptureX_c h0 h1 h2
  have cI : ∀ (W : World) (v0 : Value) (h0 : TreIn W W.heap.size v0 d0) (v1 : Value) (h1 : RulesIn W W.heap.size v1 d1) (v2 : Value) (h2 : WrnsIn W W.heap.size v2 d2), Calls Tryz.prog 12 #[v0, v1, v2] W (fun e w2 => ∃ (u0 : Value) (rs0 : List Row), e = .returned (u0) ∧ SentsR rs0 u0 (capX d0.1 d0.2.1 d0.2.2 d1 d2) ∧ Rows w2 W.heap.size (rs0) ∧ Below W.heap.size W w2) := fun W v0 h0 v1 h1 v2 h2 => implCapture_c h0 h1 h2
  have DX0 : SentsFit (capX d0.1 d0.2.1 d0.2.2 d1 d2) := capX_fit F2.out
  generalize capX d0.1 d0.2.1 d0.2.2 d1 d2 = X0 at cS cI DX0
  replace DX0 := hid DX0
  replace cS := hid cS
  replace cI := hid cI
  go_wp2_with fail
  refine (toTreY_c Aa0 na0 ca0 Ab0 nb0 cb0 d0 w.heap.size _ (T0.out.below HB.out (Nat.le_refl _)) HB.out.size F0.out).mono ?_
  rintro e w4 ⟨v, rss0, rfl, hs, hr, hb⟩
  obtain ⟨fs00, fs01, fs02, fs03, fs04, fs05, rfl⟩ := hs.form hr
  have Ss0 := hid hs
  clear hs
  replace HR := hid (HR.out.newer hb hr HB.out.size)
  replace HB := hid (HB.out.trans (hb.mono HB.out.size))
  clear hb hr
  clear da00 da01 da02 ta0
  have da00 := (Rows.bc (HR.out.right) 0 rfl).1
  have da01 := (Rows.bc (HR.out.right) 1 rfl).1
  have da02 := (Rows.bc (HR.out.right) 2 rfl).1
  have ta0 := (Rows.bc (HR.out.right) 0 rfl).2
  go_wp2_with fail
  refine (toRulesY_c A1 n1 c1 d1 w.heap.size _ (T1.out.below HB.out (Nat.le_refl _)) HB.out.size F1.out).mono ?_
  rintro e w5 ⟨v, rss1, rfl, hs, hr, hb⟩
  obtain ⟨fs10, fs11, fs12, rfl⟩ := hs.form hr
  have Ss1 := hid hs
  clear hs
  replace HR := hid (HR.out.newer hb hr HB.out.size)
  replace HB := hid (HB.out.trans (hb.mono HB.out.size))
  clear hb hr
  clear da00 da01 da02 ta0
  have da00 := (Rows.bc (HR.out.right.right) 0 rfl).1
  have da01 := (Rows.bc (HR.out.right.right) 1 rfl).1
  have da02 := (Rows.bc (HR.out.right.right) 2 rfl).1
  have ta0 := (Rows.bc (HR.out.right.right) 0 rfl).2
  go_wp2_with fail
  refine (toWrnsY_c A2 n2 c2 d2 w.heap.size _ (T2.out.below HB.out (Nat.le_refl _)) HB.out.size F2.out).mono ?_
  rintro e w6 ⟨v, rss2, rfl, hs, hr, hb⟩
  obtain ⟨fs20, fs21, fs22, rfl⟩ := hs.form hr
  have Ss2 := hid hs
  clear hs
  replace HR := hid (HR.out.newer hb hr HB.out.size)
  replace HB := hid (HB.out.trans (hb.mono HB.out.size))
  clear hb hr
  clear da00 da01 da02 ta0
  have da00 := (Rows.bc (HR.out.right.right.right) 0 rfl).1
  have da01 := (Rows.bc (HR.out.right.right.right) 1 rfl).1
  have da02 := (Rows.bc (HR.out.right.right.right) 2 rfl).1
  have ta0 := (Rows.bc (HR.out.right.right.right) 0 rfl).2
  go_wp2_with fail
  refine (cS.out _ _ (Ss0.out.at_ (HR.out.right.right.left) F0.out) _ (Ss1.out.at_ (HR.out.right.left) F1.out) _ (Ss2.out.at_ (HR.out.left) F2.out)).mono ?_
  rintro e w7 ⟨v0, rsW0, rfl, hs0, hr, hb⟩
  obtain ⟨fW00, fW01, fW02, rfl⟩ := hs0.form hr
  have SW0 := hid hs0
  clear hs0
  replace HR := hid (HR.out.newer hb hr HB.out.size)
  replace HB := hid (HB.out.trans (hb.mono HB.out.size))
  clear hb hr
  clear da00 da01 da02 ta0
  have da00 := (Rows.bc (HR.out.right.right.right.right) 0 rfl).1
  have da01 := (Rows.bc (HR.out.right.right.right.right) 1 rfl).1
  have da02 := (Rows.bc (HR.out.right.right.right.right) 2 rfl).1
  have ta0 := (Rows.bc (HR.out.right.right.right.right) 0 rfl).2
  replace HR := hid (HR.out.sub ((List.Sublist.refl _).append ((List.Sublist.refl _).append ((List.Sublist.refl _).append (List.sublist_append_right _ _)))))
  clear Ss0
  replace HR := hid (HR.out.sub ((List.Sublist.refl _).append ((List.Sublist.refl _).append (List.sublist_append_right _ _))))
  clear Ss1
  replace HR := hid (HR.out.sub ((List.Sublist.refl _).append (List.sublist_append_right _ _)))
  clear Ss2
  go_wp2_with fail
  refine (toTreY_c Aa0 na0 ca0 Ab0 nb0 cb0 d0 w.heap.size _ (T0.out.below HB.out (Nat.le_refl _)) HB.out.size F0.out).mono ?_
  rintro e w8 ⟨v, rsx0, rfl, hs, hr, hb⟩
  obtain ⟨fx00, fx01, fx02, fx03, fx04, fx05, rfl⟩ := hs.form hr
  have Sx0 := hid hs
  clear hs
  replace HR := hid (HR.out.newer hb hr HB.out.size)
  replace HB := hid (HB.out.trans (hb.mono HB.out.size))
  clear hb hr
  clear da00 da01 da02 ta0
  have da00 := (Rows.bc (HR.out.right.right) 0 rfl).1
  have da01 := (Rows.bc (HR.out.right.right) 1 rfl).1
  have da02 := (Rows.bc (HR.out.right.right) 2 rfl).1
  have ta0 := (Rows.bc (HR.out.right.right) 0 rfl).2
  have hb : Below w8.heap.size w8 (w8.alloc (.cells #[.slice fx00 fx01 fx02, .slice fx03 fx04 fx05, .int .i64 d0.2.2] 36)) := (Below.refl _ _).alloc (Nat.le_refl _) _
  have hr := Rows.box w8 #[.slice fx00 fx01 fx02, .slice fx03 fx04 fx05, .int .i64 d0.2.2] 36 3 rfl
  replace HR := hid (HR.out.newer hb hr HB.out.size)
  replace HB := hid (HB.out.trans (hb.mono HB.out.size))
  clear hb hr
  clear da00 da01 da02 ta0
  have dbx00 := (Rows.bc (HR.out.left) 0 rfl).1
  have dbx01 := (Rows.bc (HR.out.left) 1 rfl).1
  have dbx02 := (Rows.bc (HR.out.left) 2 rfl).1
  have tbx0 := (Rows.bc (HR.out.left) 0 rfl).2
  have da00 := (Rows.bc (HR.out.right.right.right) 0 rfl).1
  have da01 := (Rows.bc (HR.out.right.right.right) 1 rfl).1
  have da02 := (Rows.bc (HR.out.right.right.right) 2 rfl).1
  have ta0 := (Rows.bc (HR.out.right.right.right) 0 rfl).2
  go_wp2_with fail
  refine (toRulesY_c A1 n1 c1 d1 w.heap.size _ (T1.out.below HB.out (Nat.le_refl _)) HB.out.size F1.out).mono ?_
  rintro e w9 ⟨v, rsx1, rfl, hs, hr, hb⟩
  obtain ⟨fx10, fx11, fx12, rfl⟩ := hs.form hr
  have Sx1 := hid hs
  clear hs
  replace HR := hid (HR.out.newer hb hr HB.out.size)
  replace HB := hid (HB.out.trans (hb.mono HB.out.size))
  clear hb hr
  clear dbx00 dbx01 dbx02 tbx0 da00 da01 da02 ta0
  have dbx00 := (Rows.bc (HR.out.right.left) 0 rfl).1
  have dbx01 := (Rows.bc (HR.out.right.left) 1 rfl).1
  have dbx02 := (Rows.bc (HR.out.right.left) 2 rfl).1
  have tbx0 := (Rows.bc (HR.out.right.left) 0 rfl).2
  have da00 := (Rows.bc (HR.out.right.right.right.right) 0 rfl).1
  have da01 := (Rows.bc (HR.out.right.right.right.right) 1 rfl).1
  have da02 := (Rows.bc (HR.out.right.right.right.right) 2 rfl).1
  have ta0 := (Rows.bc (HR.out.right.right.right.right) 0 rfl).2
  go_wp2_with fail
  refine (toWrnsY_c A2 n2 c2 d2 w.heap.size _ (T2.out.below HB.out (Nat.le_refl _)) HB.out.size F2.out).mono ?_
  rintro e w10 ⟨v, rsx2, rfl, hs, hr, hb⟩
  obtain ⟨fx20, fx21, fx22, rfl⟩ := hs.form hr
  have Sx2 := hid hs
  clear hs
  replace HR := hid (HR.out.newer hb hr HB.out.size)
  replace HB := hid (HB.out.trans (hb.mono HB.out.size))
  clear hb hr
  clear dbx00 dbx01 dbx02 tbx0 da00 da01 da02 ta0
  have dbx00 := (Rows.bc (HR.out.right.right.left) 0 rfl).1
  have dbx01 := (Rows.bc (HR.out.right.right.left) 1 rfl).1
  have dbx02 := (Rows.bc (HR.out.right.right.left) 2 rfl).1
  have tbx0 := (Rows.bc (HR.out.right.right.left) 0 rfl).2
  have da00 := (Rows.bc (HR.out.right.right.right.right.right) 0 rfl).1
  have da01 := (Rows.bc (HR.out.right.right.right.right.right) 1 rfl).1
  have da02 := (Rows.bc (HR.out.right.right.right.right.right) 2 rfl).1
  have ta0 := (Rows.bc (HR.out.right.right.right.right.right) 0 rfl).2
  go_wp2_with fail
  refine (cI.out _ _ (Sx0.out.at_ (HR.out.right.right.right.left) F0.out) _ (Sx1.out.at_ (HR.out.right.left) F1.out) _ (Sx2.out.at_ (HR.out.left) F2.out)).mono ?_
  rintro e w11 ⟨v0, rsG0, rfl, hs0, hr, hb⟩
  obtain ⟨fG00, fG01, fG02, rfl⟩ := hs0.form hr
  have SG0 := hid hs0
  clear hs0
  replace HR := hid (HR.out.newer hb hr HB.out.size)
  replace HB := hid (HB.out.trans (hb.mono HB.out.size))
  clear hb hr
  clear dbx00 dbx01 dbx02 tbx0 da00 da01 da02 ta0
  have dbx00 := (Rows.bc (HR.out.right.right.right.left) 0 rfl).1
  have dbx01 := (Rows.bc (HR.out.right.right.right.left) 1 rfl).1
  have dbx02 := (Rows.bc (HR.out.right.right.right.left) 2 rfl).1
  have tbx0 := (Rows.bc (HR.out.right.right.right.left) 0 rfl).2
  have da00 := (Rows.bc (HR.out.right.right.right.right.right.right) 0 rfl).1
  have da01 := (Rows.bc (HR.out.right.right.right.right.right.right) 1 rfl).1
  have da02 := (Rows.bc (HR.out.right.right.right.right.right.right) 2 rfl).1
  have ta0 := (Rows.bc (HR.out.right.right.right.right.right.right) 0 rfl).2
  go_wp2_with fail
  refine (eqSentsX_c SG0.out (HR.out.left) SW0.out (HR.out.right.right.right.right.right.left)).mono ?_
  rintro e w12 ⟨rfl, hb⟩
  replace HR := hid (HR.out.below hb)
  replace HB := hid (HB.out.trans (hb.mono HB.out.size))
  clear hb
  clear dbx00 dbx01 dbx02 tbx0 da00 da01 da02 ta0
  have dbx00 := (Rows.bc (HR.out.right.right.right.left) 0 rfl).1
  have dbx01 := (Rows.bc (HR.out.right.right.right.left) 1 rfl).1
  have dbx02 := (Rows.bc (HR.out.right.right.right.left) 2 rfl).1
  have tbx0 := (Rows.bc (HR.out.right.right.right.left) 0 rfl).2
  have da00 := (Rows.bc (HR.out.right.right.right.right.right.right) 0 rfl).1
  have da01 := (Rows.bc (HR.out.right.right.right.right.right.right) 1 rfl).1
  have da02 := (Rows.bc (HR.out.right.right.right.right.right.right) 2 rfl).1
  have ta0 := (Rows.bc (HR.out.right.right.right.right.right.right) 0 rfl).2
  go_wp2_with fail
  refine wp_region_held_drew (S := (fun w' : World => w'.cell? ⟨w8.heap.size, 0, none⟩ = some (.slice fx00 fx01 fx02) ∧ w'.cell? ⟨w8.heap.size, 1, none⟩ = some (.slice fx03 fx04 fx05) ∧ w'.cell? ⟨w8.heap.size, 2, none⟩ = some (.int .i64 d0.2.2) ∧ w'.cell? ⟨w.heap.size, 0, none⟩ = some (.slice Aa0 na0 ca0) ∧ w'.cell? ⟨w.heap.size, 1, none⟩ = some (.slice Ab0 nb0 cb0) ∧ w'.cell? ⟨w.heap.size, 2, none⟩ = some (.int .i64 d0.2.2))) (by kernel_rfl) ⟨dbx00, dbx01, dbx02, da00, da01, da02⟩ (fun hS => ?_)
  refine wpAnyH_take (i := 0) (oi := ?oi101) (v := ?v101) ?hi101 (by kernel_rfl) ?hf101 ?hr101 ?hQ101 (Or.inl ⟨?hw101, ?hy101⟩) (by assumption) ?rest101
  case hi101 => simp only [List.getElem?_toArray, List.getElem?_cons_succ, List.getElem?_cons_zero]; rfl
  case hf101 => kernel_rfl
  case hr101 => kernel_rfl
  case hw101 => rfl
  case hy101 => (intro w hSw; (try dsimp only at hSw); go_simp; all_goals (first | done | with_reducible rfl))
  case hQ101 => exact fun _ _ _ h => h
  simp only [Act.put, List.setIfInBounds_toArray, List.set_cons_zero, List.set_cons_succ]
  refine wpAnyH_take (i := 1) (oi := ?oi102) (v := ?v102) ?hi102 (by kernel_rfl) ?hf102 ?hr102 ?hQ102 (Or.inl ⟨?hw102, ?hy102⟩) (by assumption) ?rest102
  case hi102 => simp only [List.getElem?_toArray, List.getElem?_cons_succ, List.getElem?_cons_zero]; rfl
  case hf102 => kernel_rfl
  case hr102 => kernel_rfl
  case hw102 => rfl
  case hy102 => (intro w hSw; (try dsimp only at hSw); go_simp; all_goals (first | done | with_reducible rfl))
  case hQ102 => exact fun _ _ _ h => h
  simp only [Act.put, List.setIfInBounds_toArray, List.set_cons_zero, List.set_cons_succ]
  replace HR := hid (HR.out.below ((Below.refl w12.heap.size w12).drew))
  replace HB := hid HB.out.drew
  clear dbx00 dbx01 dbx02 tbx0 da00 da01 da02 ta0
  have dbx00 := (Rows.bc (HR.out.right.right.right.left) 0 rfl).1
  have dbx01 := (Rows.bc (HR.out.right.right.right.left) 1 rfl).1
  have dbx02 := (Rows.bc (HR.out.right.right.right.left) 2 rfl).1
  have tbx0 := (Rows.bc (HR.out.right.right.right.left) 0 rfl).2
  have da00 := (Rows.bc (HR.out.right.right.right.right.right.right) 0 rfl).1
  have da01 := (Rows.bc (HR.out.right.right.right.right.right.right) 1 rfl).1
  have da02 := (Rows.bc (HR.out.right.right.right.right.right.right) 2 rfl).1
  have ta0 := (Rows.bc (HR.out.right.right.right.right.right.right) 0 rfl).2
  refine wpAnyH_ready (rs := [2]) (by kernel_rfl) (by simp) ?_
  refine AllReadyH.cons (o := ?oi103) ?hi103 (fun K hK => ?step103) AllReadyH.nil
  case hi103 => simp only [List.getElem?_toArray, List.getElem?_cons_succ, List.getElem?_cons_zero]; rfl
  rw [if_pos (by rfl)]
  go_simp
  go_at_call 9
  refine (toTreY_c Aa0 na0 ca0 Ab0 nb0 cb0 d0 w.heap.size _ (T0.out.below HB.out (Nat.le_refl _)) HB.out.size F0.out).mono ?_
  rintro e w13 ⟨v, rsy0, rfl, hs, hr, hb⟩
  obtain ⟨fy00, fy01, fy02, fy03, fy04, fy05, rfl⟩ := hs.form hr
  have Sy0 := hid hs
  clear hs
  replace HR := hid (HR.out.newer hb hr HB.out.size)
  replace HB := hid (HB.out.trans (hb.mono HB.out.size))
  clear hb hr
  clear dbx00 dbx01 dbx02 tbx0 da00 da01 da02 ta0
  have dbx00 := (Rows.bc (HR.out.right.right.right.right.left) 0 rfl).1
  have dbx01 := (Rows.bc (HR.out.right.right.right.right.left) 1 rfl).1
  have dbx02 := (Rows.bc (HR.out.right.right.right.right.left) 2 rfl).1
  have tbx0 := (Rows.bc (HR.out.right.right.right.right.left) 0 rfl).2
  have da00 := (Rows.bc (HR.out.right.right.right.right.right.right.right) 0 rfl).1
  have da01 := (Rows.bc (HR.out.right.right.right.right.right.right.right) 1 rfl).1
  have da02 := (Rows.bc (HR.out.right.right.right.right.right.right.right) 2 rfl).1
  have ta0 := (Rows.bc (HR.out.right.right.right.right.right.right.right) 0 rfl).2
  refine hK.out _ _ ⟨dbx00, dbx01, dbx02, da00, da01, da02⟩ (fun hS9 => ?_)
  refine wpAnyH_ready (rs := [3]) (by kernel_rfl) (by simp) ?_
  refine AllReadyH.cons (o := ?oi104) ?hi104 (fun K hK => ?step104) AllReadyH.nil
  case hi104 => simp only [List.getElem?_toArray, List.getElem?_cons_succ, List.getElem?_cons_zero]; rfl
  rw [if_pos (by rfl)]
  go_simp
  go_at_call 14
  refine (eqTreX_c Sx0.out (HR.out.right.right.right.right.right.left) Sy0.out (HR.out.left) F0.out).mono ?_
  rintro e w14 ⟨rfl, hb⟩
  replace HR := hid (HR.out.below hb)
  replace HB := hid (HB.out.trans (hb.mono HB.out.size))
  clear hb
  clear dbx00 dbx01 dbx02 tbx0 da00 da01 da02 ta0
  have dbx00 := (Rows.bc (HR.out.right.right.right.right.left) 0 rfl).1
  have dbx01 := (Rows.bc (HR.out.right.right.right.right.left) 1 rfl).1
  have dbx02 := (Rows.bc (HR.out.right.right.right.right.left) 2 rfl).1
  have tbx0 := (Rows.bc (HR.out.right.right.right.right.left) 0 rfl).2
  have da00 := (Rows.bc (HR.out.right.right.right.right.right.right.right) 0 rfl).1
  have da01 := (Rows.bc (HR.out.right.right.right.right.right.right.right) 1 rfl).1
  have da02 := (Rows.bc (HR.out.right.right.right.right.right.right.right) 2 rfl).1
  have ta0 := (Rows.bc (HR.out.right.right.right.right.right.right.right) 0 rfl).2
  refine hK.out _ _ ⟨dbx00, dbx01, dbx02, da00, da01, da02⟩ (fun hS9 => ?_)
  refine wpAnyH_take (i := 4) (oi := ?oi105) (v := ?v105) ?hi105 (by kernel_rfl) ?hf105 ?hr105 ?hQ105 (Or.inl ⟨?hw105, ?hy105⟩) (by assumption) ?rest105
  case hi105 => simp only [List.getElem?_toArray, List.getElem?_cons_succ, List.getElem?_cons_zero]; rfl
  case hf105 => kernel_rfl
  case hr105 => kernel_rfl
  case hw105 => rfl
  case hy105 => (intro w hSw; (try dsimp only at hSw); go_simp; all_goals (first | done | with_reducible rfl))
  case hQ105 => exact fun _ _ _ h => h
  simp only [Act.put, List.setIfInBounds_toArray, List.set_cons_zero, List.set_cons_succ]
  refine wpAnyH_done (by kernel_rfl) ?_ _
  replace HR := hid (HR.out.sub (List.sublist_append_right _ _))
  clear Sy0
  clear dbx00 dbx01 dbx02 tbx0 da00 da01 da02 ta0
  have dbx00 := (Rows.bc (HR.out.right.right.right.left) 0 rfl).1
  have dbx01 := (Rows.bc (HR.out.right.right.right.left) 1 rfl).1
  have dbx02 := (Rows.bc (HR.out.right.right.right.left) 2 rfl).1
  have tbx0 := (Rows.bc (HR.out.right.right.right.left) 0 rfl).2
  have da00 := (Rows.bc (HR.out.right.right.right.right.right.right) 0 rfl).1
  have da01 := (Rows.bc (HR.out.right.right.right.right.right.right) 1 rfl).1
  have da02 := (Rows.bc (HR.out.right.right.right.right.right.right) 2 rfl).1
  have ta0 := (Rows.bc (HR.out.right.right.right.right.right.right) 0 rfl).2
  go_wp2_with fail
  refine (toRulesY_c A1 n1 c1 d1 w.heap.size _ (T1.out.below HB.out (Nat.le_refl _)) HB.out.size F1.out).mono ?_
  rintro e w15 ⟨v, rsy1, rfl, hs, hr, hb⟩
  obtain ⟨fy10, fy11, fy12, rfl⟩ := hs.form hr
  have Sy1 := hid hs
  clear hs
  replace HR := hid (HR.out.newer hb hr HB.out.size)
  replace HB := hid (HB.out.trans (hb.mono HB.out.size))
  clear hb hr
  clear dbx00 dbx01 dbx02 tbx0 da00 da01 da02 ta0
  have dbx00 := (Rows.bc (HR.out.right.right.right.right.left) 0 rfl).1
  have dbx01 := (Rows.bc (HR.out.right.right.right.right.left) 1 rfl).1
  have dbx02 := (Rows.bc (HR.out.right.right.right.right.left) 2 rfl).1
  have tbx0 := (Rows.bc (HR.out.right.right.right.right.left) 0 rfl).2
  have da00 := (Rows.bc (HR.out.right.right.right.right.right.right.right) 0 rfl).1
  have da01 := (Rows.bc (HR.out.right.right.right.right.right.right.right) 1 rfl).1
  have da02 := (Rows.bc (HR.out.right.right.right.right.right.right.right) 2 rfl).1
  have ta0 := (Rows.bc (HR.out.right.right.right.right.right.right.right) 0 rfl).2
  go_wp2_with fail
  refine (eqRulesX_c Sx1.out (HR.out.right.right.right.left) Sy1.out (HR.out.left)).mono ?_
  rintro e w16 ⟨rfl, hb⟩
  replace HR := hid (HR.out.below hb)
  replace HB := hid (HB.out.trans (hb.mono HB.out.size))
  clear hb
  clear dbx00 dbx01 dbx02 tbx0 da00 da01 da02 ta0
  have dbx00 := (Rows.bc (HR.out.right.right.right.right.left) 0 rfl).1
  have dbx01 := (Rows.bc (HR.out.right.right.right.right.left) 1 rfl).1
  have dbx02 := (Rows.bc (HR.out.right.right.right.right.left) 2 rfl).1
  have tbx0 := (Rows.bc (HR.out.right.right.right.right.left) 0 rfl).2
  have da00 := (Rows.bc (HR.out.right.right.right.right.right.right.right) 0 rfl).1
  have da01 := (Rows.bc (HR.out.right.right.right.right.right.right.right) 1 rfl).1
  have da02 := (Rows.bc (HR.out.right.right.right.right.right.right.right) 2 rfl).1
  have ta0 := (Rows.bc (HR.out.right.right.right.right.right.right.right) 0 rfl).2
  replace HR := hid (HR.out.sub (List.sublist_append_right _ _))
  clear Sy1
  clear dbx00 dbx01 dbx02 tbx0 da00 da01 da02 ta0
  have dbx00 := (Rows.bc (HR.out.right.right.right.left) 0 rfl).1
  have dbx01 := (Rows.bc (HR.out.right.right.right.left) 1 rfl).1
  have dbx02 := (Rows.bc (HR.out.right.right.right.left) 2 rfl).1
  have tbx0 := (Rows.bc (HR.out.right.right.right.left) 0 rfl).2
  have da00 := (Rows.bc (HR.out.right.right.right.right.right.right) 0 rfl).1
  have da01 := (Rows.bc (HR.out.right.right.right.right.right.right) 1 rfl).1
  have da02 := (Rows.bc (HR.out.right.right.right.right.right.right) 2 rfl).1
  have ta0 := (Rows.bc (HR.out.right.right.right.right.right.right) 0 rfl).2
  go_wp2_with fail
  refine (toWrnsY_c A2 n2 c2 d2 w.heap.size _ (T2.out.below HB.out (Nat.le_refl _)) HB.out.size F2.out).mono ?_
  rintro e w17 ⟨v, rsy2, rfl, hs, hr, hb⟩
  obtain ⟨fy20, fy21, fy22, rfl⟩ := hs.form hr
  have Sy2 := hid hs
  clear hs
  replace HR := hid (HR.out.newer hb hr HB.out.size)
  replace HB := hid (HB.out.trans (hb.mono HB.out.size))
  clear hb hr
  clear dbx00 dbx01 dbx02 tbx0 da00 da01 da02 ta0
  have dbx00 := (Rows.bc (HR.out.right.right.right.right.left) 0 rfl).1
  have dbx01 := (Rows.bc (HR.out.right.right.right.right.left) 1 rfl).1
  have dbx02 := (Rows.bc (HR.out.right.right.right.right.left) 2 rfl).1
  have tbx0 := (Rows.bc (HR.out.right.right.right.right.left) 0 rfl).2
  have da00 := (Rows.bc (HR.out.right.right.right.right.right.right.right) 0 rfl).1
  have da01 := (Rows.bc (HR.out.right.right.right.right.right.right.right) 1 rfl).1
  have da02 := (Rows.bc (HR.out.right.right.right.right.right.right.right) 2 rfl).1
  have ta0 := (Rows.bc (HR.out.right.right.right.right.right.right.right) 0 rfl).2
  go_wp2_with fail
  refine (eqWrnsX_c Sx2.out (HR.out.right.right.left) Sy2.out (HR.out.left)).mono ?_
  rintro e w18 ⟨rfl, hb⟩
  replace HR := hid (HR.out.below hb)
  replace HB := hid (HB.out.trans (hb.mono HB.out.size))
  clear hb
  clear dbx00 dbx01 dbx02 tbx0 da00 da01 da02 ta0
  have dbx00 := (Rows.bc (HR.out.right.right.right.right.left) 0 rfl).1
  have dbx01 := (Rows.bc (HR.out.right.right.right.right.left) 1 rfl).1
  have dbx02 := (Rows.bc (HR.out.right.right.right.right.left) 2 rfl).1
  have tbx0 := (Rows.bc (HR.out.right.right.right.right.left) 0 rfl).2
  have da00 := (Rows.bc (HR.out.right.right.right.right.right.right.right) 0 rfl).1
  have da01 := (Rows.bc (HR.out.right.right.right.right.right.right.right) 1 rfl).1
  have da02 := (Rows.bc (HR.out.right.right.right.right.right.right.right) 2 rfl).1
  have ta0 := (Rows.bc (HR.out.right.right.right.right.right.right.right) 0 rfl).2
  replace HR := hid (HR.out.sub (List.sublist_append_right _ _))
  clear Sy2
  clear dbx00 dbx01 dbx02 tbx0 da00 da01 da02 ta0
  have dbx00 := (Rows.bc (HR.out.right.right.right.left) 0 rfl).1
  have dbx01 := (Rows.bc (HR.out.right.right.right.left) 1 rfl).1
  have dbx02 := (Rows.bc (HR.out.right.right.right.left) 2 rfl).1
  have tbx0 := (Rows.bc (HR.out.right.right.right.left) 0 rfl).2
  have da00 := (Rows.bc (HR.out.right.right.right.right.right.right) 0 rfl).1
  have da01 := (Rows.bc (HR.out.right.right.right.right.right.right) 1 rfl).1
  have da02 := (Rows.bc (HR.out.right.right.right.right.right.right) 2 rfl).1
  have ta0 := (Rows.bc (HR.out.right.right.right.right.right.right) 0 rfl).2
  replace HR := hid (HR.out.perm (((((((List.perm_append_comm_assoc _ _ _).append_left _).trans (List.perm_append_comm_assoc _ _ _)).append_left _).trans (List.perm_append_comm_assoc _ _ _)).append_left _).trans (List.perm_append_comm_assoc _ _ _)))
  go_wp2_with fail
  refine (markTreX_c (k := 1) Sx0.out HR.out HB.out.size F0.out (by omega)).mono ?_
  rintro e w19 ⟨rx0, rsx0, rfl, hM, hr, hb, hlx0⟩
  replace HR := hid hr
  replace HB := hid (HB.out.trans hb)
  have Mx0 := hid hM
  clear hr hb hM Sx0
  clear dbx00 dbx01 dbx02 tbx0 da00 da01 da02 ta0
  have dbx00 := (Rows.bc (HR.out.right.right.right.right.left) 0 rfl).1
  have dbx01 := (Rows.bc (HR.out.right.right.right.right.left) 1 rfl).1
  have dbx02 := (Rows.bc (HR.out.right.right.right.right.left) 2 rfl).1
  have tbx0 := (Rows.bc (HR.out.right.right.right.right.left) 0 rfl).2
  have da00 := (Rows.bc (HR.out.right.right.right.right.right.right) 0 rfl).1
  have da01 := (Rows.bc (HR.out.right.right.right.right.right.right) 1 rfl).1
  have da02 := (Rows.bc (HR.out.right.right.right.right.right.right) 2 rfl).1
  have ta0 := (Rows.bc (HR.out.right.right.right.right.right.right) 0 rfl).2
  replace HR := hid (HR.out.perm (((((List.perm_append_comm_assoc _ _ _).append_left _).trans (List.perm_append_comm_assoc _ _ _)).append_left _).trans (List.perm_append_comm_assoc _ _ _)))
  go_wp2_with fail
  refine (markRulesX_c (k := rx0) Sx1.out HR.out HB.out.size F1.out (by omega)).mono ?_
  rintro e w20 ⟨rx1, rsx1, rfl, hM, hr, hb, hlx1⟩
  replace HR := hid hr
  replace HB := hid (HB.out.trans hb)
  have Mx1 := hid hM
  clear hr hb hM Sx1
  clear dbx00 dbx01 dbx02 tbx0 da00 da01 da02 ta0
  have dbx00 := (Rows.bc (HR.out.right.right.right.right.left) 0 rfl).1
  have dbx01 := (Rows.bc (HR.out.right.right.right.right.left) 1 rfl).1
  have dbx02 := (Rows.bc (HR.out.right.right.right.right.left) 2 rfl).1
  have tbx0 := (Rows.bc (HR.out.right.right.right.right.left) 0 rfl).2
  have da00 := (Rows.bc (HR.out.right.right.right.right.right.right) 0 rfl).1
  have da01 := (Rows.bc (HR.out.right.right.right.right.right.right) 1 rfl).1
  have da02 := (Rows.bc (HR.out.right.right.right.right.right.right) 2 rfl).1
  have ta0 := (Rows.bc (HR.out.right.right.right.right.right.right) 0 rfl).2
  replace HR := hid (HR.out.perm (((((List.perm_append_comm_assoc _ _ _).append_left _).trans (List.perm_append_comm_assoc _ _ _)).append_left _).trans (List.perm_append_comm_assoc _ _ _)))
  go_wp2_with fail
  refine (markWrnsX_c (k := rx1) Sx2.out HR.out HB.out.size F2.out (by omega)).mono ?_
  rintro e w21 ⟨rx2, rsx2, rfl, hM, hr, hb, hlx2⟩
  replace HR := hid hr
  replace HB := hid (HB.out.trans hb)
  have Mx2 := hid hM
  clear hr hb hM Sx2
  clear dbx00 dbx01 dbx02 tbx0 da00 da01 da02 ta0
  have dbx00 := (Rows.bc (HR.out.right.right.right.right.left) 0 rfl).1
  have dbx01 := (Rows.bc (HR.out.right.right.right.right.left) 1 rfl).1
  have dbx02 := (Rows.bc (HR.out.right.right.right.right.left) 2 rfl).1
  have tbx0 := (Rows.bc (HR.out.right.right.right.right.left) 0 rfl).2
  have da00 := (Rows.bc (HR.out.right.right.right.right.right.right) 0 rfl).1
  have da01 := (Rows.bc (HR.out.right.right.right.right.right.right) 1 rfl).1
  have da02 := (Rows.bc (HR.out.right.right.right.right.right.right) 2 rfl).1
  have ta0 := (Rows.bc (HR.out.right.right.right.right.right.right) 0 rfl).2
  replace HR := hid (HR.out.sub ((List.Sublist.refl _).append ((List.Sublist.refl _).append (List.sublist_append_right _ _))))
  clear Mx0
  replace HR := hid (HR.out.sub ((List.Sublist.refl _).append ((List.Sublist.refl _).append ((List.Sublist.refl _).append (List.sublist_append_right _ _)))))
  replace HR := hid (HR.out.sub ((List.Sublist.refl _).append (List.sublist_append_right _ _)))
  clear Mx1
  replace HR := hid (HR.out.sub (List.sublist_append_right _ _))
  clear Mx2
  clear dbx00 dbx01 dbx02 tbx0 da00 da01 da02 ta0
  have da00 := (Rows.bc (HR.out.right.right) 0 rfl).1
  have da01 := (Rows.bc (HR.out.right.right) 1 rfl).1
  have da02 := (Rows.bc (HR.out.right.right) 2 rfl).1
  have ta0 := (Rows.bc (HR.out.right.right) 0 rfl).2
  go_wp2_with fail
  refine (eqSentsX_c SG0.out (HR.out.left) SW0.out (HR.out.right.left)).mono ?_
  rintro e w22 ⟨rfl, hb⟩
  replace HR := hid (HR.out.below hb)
  replace HB := hid (HB.out.trans (hb.mono HB.out.size))
  clear hb
  clear da00 da01 da02 ta0
  have da00 := (Rows.bc (HR.out.right.right) 0 rfl).1
  have da01 := (Rows.bc (HR.out.right.right) 1 rfl).1
  have da02 := (Rows.bc (HR.out.right.right) 2 rfl).1
  have ta0 := (Rows.bc (HR.out.right.right) 0 rfl).2
  go_wp2_with fail
  refine (markSentsX_c (k := 1) SG0.out HR.out HB.out.size DX0.out (by omega)).mono ?_
  rintro e w23 ⟨rG0, rsG0, rfl, hM, hr, hb, hlG0⟩
  replace HR := hid hr
  replace HB := hid (HB.out.trans hb)
  have MG0 := hid hM
  clear hr hb hM SG0
  clear da00 da01 da02 ta0
  have da00 := (Rows.bc (HR.out.right.right) 0 rfl).1
  have da01 := (Rows.bc (HR.out.right.right) 1 rfl).1
  have da02 := (Rows.bc (HR.out.right.right) 2 rfl).1
  have ta0 := (Rows.bc (HR.out.right.right) 0 rfl).2
  go_wp2_with fail
  refine (heldSentsX_c MG0.out (HR.out.left)).mono ?_
  rintro e w24 ⟨rfl, hb⟩
  replace HR := hid (HR.out.below hb)
  replace HB := hid (HB.out.trans (hb.mono HB.out.size))
  clear hb
  clear da00 da01 da02 ta0
  have da00 := (Rows.bc (HR.out.right.right) 0 rfl).1
  have da01 := (Rows.bc (HR.out.right.right) 1 rfl).1
  have da02 := (Rows.bc (HR.out.right.right) 2 rfl).1
  have ta0 := (Rows.bc (HR.out.right.right) 0 rfl).2
  go_wp2_with fail
  refine (toTreY_c Aa0 na0 ca0 Ab0 nb0 cb0 d0 w.heap.size _ (T0.out.below HB.out (Nat.le_refl _)) HB.out.size F0.out).mono ?_
  rintro e w25 ⟨v, rsz0, rfl, hs, hr, hb⟩
  obtain ⟨fz00, fz01, fz02, fz03, fz04, fz05, rfl⟩ := hs.form hr
  have Sz0 := hid hs
  clear hs
  replace HR := hid (HR.out.newer hb hr HB.out.size)
  replace HB := hid (HB.out.trans (hb.mono HB.out.size))
  clear hb hr
  clear da00 da01 da02 ta0
  have da00 := (Rows.bc (HR.out.right.right.right) 0 rfl).1
  have da01 := (Rows.bc (HR.out.right.right.right) 1 rfl).1
  have da02 := (Rows.bc (HR.out.right.right.right) 2 rfl).1
  have ta0 := (Rows.bc (HR.out.right.right.right) 0 rfl).2
  go_wp2_with fail
  refine (toRulesY_c A1 n1 c1 d1 w.heap.size _ (T1.out.below HB.out (Nat.le_refl _)) HB.out.size F1.out).mono ?_
  rintro e w26 ⟨v, rsz1, rfl, hs, hr, hb⟩
  obtain ⟨fz10, fz11, fz12, rfl⟩ := hs.form hr
  have Sz1 := hid hs
  clear hs
  replace HR := hid (HR.out.newer hb hr HB.out.size)
  replace HB := hid (HB.out.trans (hb.mono HB.out.size))
  clear hb hr
  clear da00 da01 da02 ta0
  have da00 := (Rows.bc (HR.out.right.right.right.right) 0 rfl).1
  have da01 := (Rows.bc (HR.out.right.right.right.right) 1 rfl).1
  have da02 := (Rows.bc (HR.out.right.right.right.right) 2 rfl).1
  have ta0 := (Rows.bc (HR.out.right.right.right.right) 0 rfl).2
  go_wp2_with fail
  refine (toWrnsY_c A2 n2 c2 d2 w.heap.size _ (T2.out.below HB.out (Nat.le_refl _)) HB.out.size F2.out).mono ?_
  rintro e w27 ⟨v, rsz2, rfl, hs, hr, hb⟩
  obtain ⟨fz20, fz21, fz22, rfl⟩ := hs.form hr
  have Sz2 := hid hs
  clear hs
  replace HR := hid (HR.out.newer hb hr HB.out.size)
  replace HB := hid (HB.out.trans (hb.mono HB.out.size))
  clear hb hr
  clear da00 da01 da02 ta0
  have da00 := (Rows.bc (HR.out.right.right.right.right.right) 0 rfl).1
  have da01 := (Rows.bc (HR.out.right.right.right.right.right) 1 rfl).1
  have da02 := (Rows.bc (HR.out.right.right.right.right.right) 2 rfl).1
  have ta0 := (Rows.bc (HR.out.right.right.right.right.right) 0 rfl).2
  go_wp2_with fail
  refine (cI.out _ _ (Sz0.out.at_ (HR.out.right.right.left) F0.out) _ (Sz1.out.at_ (HR.out.right.left) F1.out) _ (Sz2.out.at_ (HR.out.left) F2.out)).mono ?_
  rintro e w28 ⟨v0, rsh0, rfl, hs0, hr, hb⟩
  obtain ⟨fh00, fh01, fh02, rfl⟩ := hs0.form hr
  have Sh0 := hid hs0
  clear hs0
  replace HR := hid (HR.out.newer hb hr HB.out.size)
  replace HB := hid (HB.out.trans (hb.mono HB.out.size))
  clear hb hr
  clear da00 da01 da02 ta0
  have da00 := (Rows.bc (HR.out.right.right.right.right.right.right) 0 rfl).1
  have da01 := (Rows.bc (HR.out.right.right.right.right.right.right) 1 rfl).1
  have da02 := (Rows.bc (HR.out.right.right.right.right.right.right) 2 rfl).1
  have ta0 := (Rows.bc (HR.out.right.right.right.right.right.right) 0 rfl).2
  replace HR := hid (HR.out.sub ((List.Sublist.refl _).append ((List.Sublist.refl _).append ((List.Sublist.refl _).append (List.sublist_append_right _ _)))))
  clear Sz0
  replace HR := hid (HR.out.sub ((List.Sublist.refl _).append ((List.Sublist.refl _).append (List.sublist_append_right _ _))))
  clear Sz1
  replace HR := hid (HR.out.sub ((List.Sublist.refl _).append (List.sublist_append_right _ _)))
  clear Sz2
  go_wp2_with fail
  refine (eqSentsX_c Sh0.out (HR.out.left) SW0.out (HR.out.right.right.left)).mono ?_
  rintro e w29 ⟨rfl, hb⟩
  replace HR := hid (HR.out.below hb)
  replace HB := hid (HB.out.trans (hb.mono HB.out.size))
  clear hb
  clear da00 da01 da02 ta0
  have da00 := (Rows.bc (HR.out.right.right.right) 0 rfl).1
  have da01 := (Rows.bc (HR.out.right.right.right) 1 rfl).1
  have da02 := (Rows.bc (HR.out.right.right.right) 2 rfl).1
  have ta0 := (Rows.bc (HR.out.right.right.right) 0 rfl).2
  go_wp2_with fail
  refine (heldSentsX_c MG0.out (HR.out.right.left)).mono ?_
  rintro e w30 ⟨rfl, hb⟩
  replace HR := hid (HR.out.below hb)
  replace HB := hid (HB.out.trans (hb.mono HB.out.size))
  clear hb
  clear da00 da01 da02 ta0
  have da00 := (Rows.bc (HR.out.right.right.right) 0 rfl).1
  have da01 := (Rows.bc (HR.out.right.right.right) 1 rfl).1
  have da02 := (Rows.bc (HR.out.right.right.right) 2 rfl).1
  have ta0 := (Rows.bc (HR.out.right.right.right) 0 rfl).2
  go_wp2_with fail
  go_ret
  exact ⟨rfl, HB.out⟩
end Go.Proofs.YtlifaeleoiodkaaGreatDoor
