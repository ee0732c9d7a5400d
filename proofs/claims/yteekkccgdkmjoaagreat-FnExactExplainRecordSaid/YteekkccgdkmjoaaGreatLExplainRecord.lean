/-
  WALK: the law FnExactExplainRecord. By gen_any.py.
-/
import Derived.Deep.Cut
import Derived.Test.YteekkccgdkmjoaaGreatSN12
import Derived.Test.YteekkccgdkmjoaaGreatApp
import Derived.Test.YteekkccgdkmjoaaGreatKTre
import Derived.Test.YteekkccgdkmjoaaGreatKRsns
namespace Go.Proofs.YteekkccgdkmjoaaGreat
open Go.RowKit Go.Proofs.YteekkccgdkmjoaaGreat.Nm
set_option linter.unusedSimpArgs false
set_option linter.unusedVariables false

set_option maxHeartbeats 16000000 in
set_option maxRecDepth 100000 in
theorem walk_FnExactExplainRecord (Aa0 : Option Addr) (na0 ca0 : Nat) (Ab0 : Option Addr) (nb0 cb0 : Nat) (d0 : TreeD) (nm1 : ByteArray) (lv1 : Int) (tx1 : ByteArray) (sq1 : Int) (w : World) (t0 : TreRaw w w.heap.size Aa0 na0 ca0 Ab0 nb0 cb0 d0) (mnm1 : nm1.size ≤ maxLen) (mtx1 : tx1.size ≤ maxLen) :
    Calls Tryz.prog 4 #[.agg #[.slice Aa0 na0 ca0, .slice Ab0 nb0 cb0, .int .i64 d0.2.2], .agg #[.string nm1, .int .i64 lv1, .string tx1, .int .i64 sq1]] w (BoolPost w true) := by
  have T0 := hid t0
  clear t0
  have HB := hid (Below.refl w.heap.size w)
  have hr : Rows (w.alloc (.cells #[.slice Aa0 na0 ca0, .slice Ab0 nb0 cb0, .int .i64 d0.2.2] 25)) w.heap.size [bxRow 25 3 (w.heap.size) [.slice Aa0 na0 ca0, .slice Ab0 nb0 cb0, .int .i64 d0.2.2]] := by have h := Rows.box w #[.slice Aa0 na0 ca0, .slice Ab0 nb0 cb0, .int .i64 d0.2.2] 25 3 rfl; simpa using h
  have hb : Below w.heap.size w (w.alloc (.cells #[.slice Aa0 na0 ca0, .slice Ab0 nb0 cb0, .int .i64 d0.2.2] 25)) := (Below.refl _ _).alloc (Nat.le_refl _) _
  have HR := hid hr
  replace HB := hid (HB.out.trans (hb.mono HB.out.size))
  clear hb hr
  have hr : Rows ((w.alloc (.cells #[.slice Aa0 na0 ca0, .slice Ab0 nb0 cb0, .int .i64 d0.2.2] 25)).alloc (.cells #[.string nm1, .int .i64 lv1, .string tx1, .int .i64 sq1] 27)) (w.alloc (.cells #[.slice Aa0 na0 ca0, .slice Ab0 nb0 cb0, .int .i64 d0.2.2] 25)).heap.size [bxRow 27 4 (w.heap.size + 1) [.string nm1, .int .i64 lv1, .string tx1, .int .i64 sq1]] := by have h := Rows.box (w.alloc (.cells #[.slice Aa0 na0 ca0, .slice Ab0 nb0 cb0, .int .i64 d0.2.2] 25)) #[.string nm1, .int .i64 lv1, .string tx1, .int .i64 sq1] 27 4 rfl; simpa using h
  have hb : Below (w.alloc (.cells #[.slice Aa0 na0 ca0, .slice Ab0 nb0 cb0, .int .i64 d0.2.2] 25)).heap.size (w.alloc (.cells #[.slice Aa0 na0 ca0, .slice Ab0 nb0 cb0, .int .i64 d0.2.2] 25)) ((w.alloc (.cells #[.slice Aa0 na0 ca0, .slice Ab0 nb0 cb0, .int .i64 d0.2.2] 25)).alloc (.cells #[.string nm1, .int .i64 lv1, .string tx1, .int .i64 sq1] 27)) := (Below.refl _ _).alloc (Nat.le_refl _) _
  replace HR := hid (HR.out.newer hb hr HB.out.size)
  replace HB := hid (HB.out.trans (hb.mono HB.out.size))
  clear hb hr
  have da10 := (Rows.bc (HR.out.left) 0 rfl).1
  have da11 := (Rows.bc (HR.out.left) 1 rfl).1
  have da12 := (Rows.bc (HR.out.left) 2 rfl).1
  have da13 := (Rows.bc (HR.out.left) 3 rfl).1
  have ta1 := (Rows.bc (HR.out.left) 0 rfl).2
  have da00 := (Rows.bc (HR.out.right) 0 rfl).1
  have da01 := (Rows.bc (HR.out.right) 1 rfl).1
  have da02 := (Rows.bc (HR.out.right) 2 rfl).1
  have ta0 := (Rows.bc (HR.out.right) 0 rfl).2
  go_enter Tryz.func4, Tryz.ntmps4
  go_wp2_with fail
  refine (szTreY_c Aa0 na0 ca0 Ab0 nb0 cb0 d0 w.heap.size _ _ (T0.out.below HB.out (Nat.le_refl _)) HB.out.size (by omega) (by omega)).mono ?_
  rintro e w1 ⟨r0, rfl, hb, hr⟩
  replace HR := hid (HR.out.below hb)
  replace HB := hid (HB.out.trans (hb.mono HB.out.size))
  clear hb
  clear da10 da11 da12 da13 ta1 da00 da01 da02 ta0
  have da10 := (Rows.bc (HR.out.left) 0 rfl).1
  have da11 := (Rows.bc (HR.out.left) 1 rfl).1
  have da12 := (Rows.bc (HR.out.left) 2 rfl).1
  have da13 := (Rows.bc (HR.out.left) 3 rfl).1
  have ta1 := (Rows.bc (HR.out.left) 0 rfl).2
  have da00 := (Rows.bc (HR.out.right) 0 rfl).1
  have da01 := (Rows.bc (HR.out.right) 1 rfl).1
  have da02 := (Rows.bc (HR.out.right) 2 rfl).1
  have ta0 := (Rows.bc (HR.out.right) 0 rfl).2
  rcases hr with hr | ⟨hr0, hr1, hfit⟩
  · go_wp2_with fail
    go_ret
    exact ⟨rfl, HB.out⟩
  have F0 := hid hfit
  clear hfit
  go_wp2_with fail
  refine (szRecord_c nm1 lv1 tx1 sq1 _ _ mnm1 mtx1 (by omega) (by omega)).mono ?_
  rintro e w2 ⟨r1, rfl, hb, hr⟩
  replace HR := hid (HR.out.below hb)
  replace HB := hid (HB.out.trans (hb.mono HB.out.size))
  clear hb
  clear da10 da11 da12 da13 ta1 da00 da01 da02 ta0
  have da10 := (Rows.bc (HR.out.left) 0 rfl).1
  have da11 := (Rows.bc (HR.out.left) 1 rfl).1
  have da12 := (Rows.bc (HR.out.left) 2 rfl).1
  have da13 := (Rows.bc (HR.out.left) 3 rfl).1
  have ta1 := (Rows.bc (HR.out.left) 0 rfl).2
  have da00 := (Rows.bc (HR.out.right) 0 rfl).1
  have da01 := (Rows.bc (HR.out.right) 1 rfl).1
  have da02 := (Rows.bc (HR.out.right) 2 rfl).1
  have ta0 := (Rows.bc (HR.out.right) 0 rfl).2
  rcases hr with hr | ⟨hr0, hr1, znm1, ztx1⟩
  · go_wp2_with fail
    go_ret
    exact ⟨rfl, HB.out⟩
  have cS : ∀ (W : World) (v0 : Value) (h0 : TreIn W W.heap.size v0 d0), Calls Tryz.prog 17 #[v0, .agg #[.string nm1, .int .i64 lv1, .string tx1, .int .i64 sq1]] W (fun e w2 => ∃ (u0 : Value) (rs0 : List Row), e = .returned (u0) ∧ RsnsR rs0 u0 (whyX d0.1 d0.2.1 d0.2.2 ⟨nm1.data.toList, lv1, tx1.data.toList, sq1⟩) ∧ Rows w2 W.heap.size (rs0) ∧ Below W.heap.size W w2) := fun W v0 h0 => specExplainX_c nm1 tx1 lv1 sq1 h0 znm1 ztx1
  have cI : ∀ (W : World) (v0 : Value) (h0 : TreIn W W.heap.size v0 d0), Calls Tryz.prog 18 #[v0, .agg #[.string nm1, .int .i64 lv1, .string tx1, .int .i64 sq1]] W (fun e w2 => ∃ (u0 : Value) (rs0 : List Row), e = .returned (u0) ∧ RsnsR rs0 u0 (whyX d0.1 d0.2.1 d0.2.2 ⟨nm1.data.toList, lv1, tx1.data.toList, sq1⟩) ∧ Rows w2 W.heap.size (rs0) ∧ Below W.heap.size W w2) := fun W v0 h0 => implExplainX_c nm1 tx1 lv1 sq1 h0 znm1 ztx1
  have DX0 : RsnsFit (whyX d0.1 d0.2.1 d0.2.2 ⟨nm1.data.toList, lv1, tx1.data.toList, sq1⟩) := whyX_fit _ _ _ _
  generalize whyX d0.1 d0.2.1 d0.2.2 ⟨nm1.data.toList, lv1, tx1.data.toList, sq1⟩ = X0 at cS cI DX0
  replace DX0 := hid DX0
  replace cS := hid cS
  replace cI := hid cI
  go_wp2_with fail
  refine wp_region_held_drew (S := (fun w' : World => w'.cell? ⟨w.heap.size, 0, none⟩ = some (.slice Aa0 na0 ca0) ∧ w'.cell? ⟨w.heap.size, 1, none⟩ = some (.slice Ab0 nb0 cb0) ∧ w'.cell? ⟨w.heap.size, 2, none⟩ = some (.int .i64 d0.2.2) ∧ w'.cell? ⟨w.heap.size + 1, 0, none⟩ = some (.string nm1) ∧ w'.cell? ⟨w.heap.size + 1, 1, none⟩ = some (.int .i64 lv1) ∧ w'.cell? ⟨w.heap.size + 1, 2, none⟩ = some (.string tx1) ∧ w'.cell? ⟨w.heap.size + 1, 3, none⟩ = some (.int .i64 sq1))) (by kernel_rfl) ⟨da00, da01, da02, da10, da11, da12, da13⟩ (fun hS => ?_)
  refine wpAnyH_take (i := 0) (oi := ?oi101) (v := ?v101) ?hi101 (by kernel_rfl) ?hf101 ?hr101 ?hQ101 (Or.inl ⟨?hw101, ?hy101⟩) (by assumption) ?rest101
  case hi101 => simp only [List.getElem?_toArray, List.getElem?_cons_succ, List.getElem?_cons_zero]; rfl
  case hf101 => kernel_rfl
  case hr101 => kernel_rfl
  case hw101 => rfl
  case hy101 => (intro w hSw; (try dsimp only at hSw); go_simp; all_goals (first | done | with_reducible rfl))
  case hQ101 => exact fun _ _ _ h => h
  simp only [Act.put, List.setIfInBounds_toArray, List.set_cons_zero, List.set_cons_succ]
  refine wpAnyH_take (i := 2) (oi := ?oi102) (v := ?v102) ?hi102 (by kernel_rfl) ?hf102 ?hr102 ?hQ102 (Or.inl ⟨?hw102, ?hy102⟩) (by assumption) ?rest102
  case hi102 => simp only [List.getElem?_toArray, List.getElem?_cons_succ, List.getElem?_cons_zero]; rfl
  case hf102 => kernel_rfl
  case hr102 => kernel_rfl
  case hw102 => rfl
  case hy102 => (intro w hSw; (try dsimp only at hSw); go_simp; all_goals (first | done | with_reducible rfl))
  case hQ102 => exact fun _ _ _ h => h
  simp only [Act.put, List.setIfInBounds_toArray, List.set_cons_zero, List.set_cons_succ]
  replace HR := hid (HR.out.below ((Below.refl w2.heap.size w2).drew))
  replace HB := hid HB.out.drew
  clear da10 da11 da12 da13 ta1 da00 da01 da02 ta0
  have da10 := (Rows.bc (HR.out.left) 0 rfl).1
  have da11 := (Rows.bc (HR.out.left) 1 rfl).1
  have da12 := (Rows.bc (HR.out.left) 2 rfl).1
  have da13 := (Rows.bc (HR.out.left) 3 rfl).1
  have ta1 := (Rows.bc (HR.out.left) 0 rfl).2
  have da00 := (Rows.bc (HR.out.right) 0 rfl).1
  have da01 := (Rows.bc (HR.out.right) 1 rfl).1
  have da02 := (Rows.bc (HR.out.right) 2 rfl).1
  have ta0 := (Rows.bc (HR.out.right) 0 rfl).2
  refine wpAnyH_ready (rs := [1]) (by kernel_rfl) (by simp) ?_
  refine AllReadyH.cons (o := ?oi103) ?hi103 (fun K hK => ?step103) AllReadyH.nil
  case hi103 => simp only [List.getElem?_toArray, List.getElem?_cons_succ, List.getElem?_cons_zero]; rfl
  rw [if_pos (by rfl)]
  go_simp
  go_at_call 9
  refine (toTreY_c Aa0 na0 ca0 Ab0 nb0 cb0 d0 w.heap.size _ (T0.out.below HB.out (Nat.le_refl _)) HB.out.size F0.out).mono ?_
  rintro e w3 ⟨v, rss0, rfl, hs, hr, hb⟩
  obtain ⟨fs00, fs01, fs02, fs03, fs04, fs05, rfl⟩ := hs.form hr
  have Ss0 := hid hs
  clear hs
  replace HR := hid (HR.out.newer hb hr HB.out.size)
  replace HB := hid (HB.out.trans (hb.mono HB.out.size))
  clear hb hr
  clear da10 da11 da12 da13 ta1 da00 da01 da02 ta0
  have da10 := (Rows.bc (HR.out.right.left) 0 rfl).1
  have da11 := (Rows.bc (HR.out.right.left) 1 rfl).1
  have da12 := (Rows.bc (HR.out.right.left) 2 rfl).1
  have da13 := (Rows.bc (HR.out.right.left) 3 rfl).1
  have ta1 := (Rows.bc (HR.out.right.left) 0 rfl).2
  have da00 := (Rows.bc (HR.out.right.right) 0 rfl).1
  have da01 := (Rows.bc (HR.out.right.right) 1 rfl).1
  have da02 := (Rows.bc (HR.out.right.right) 2 rfl).1
  have ta0 := (Rows.bc (HR.out.right.right) 0 rfl).2
  refine hK.out _ _ ⟨da00, da01, da02, da10, da11, da12, da13⟩ (fun hS9 => ?_)
  refine wpAnyH_ready (rs := [3]) (by kernel_rfl) (by simp) ?_
  refine AllReadyH.cons (o := ?oi104) ?hi104 (fun K hK => ?step104) AllReadyH.nil
  case hi104 => simp only [List.getElem?_toArray, List.getElem?_cons_succ, List.getElem?_cons_zero]; rfl
  rw [if_pos (by rfl)]
  go_simp
  go_at_call 10
  refine (toRecord_c nm1 lv1 tx1 sq1 _).mono ?_
  rintro e w4 ⟨rfl, hb⟩
  replace HR := hid (HR.out.below hb)
  replace HB := hid (HB.out.trans (hb.mono HB.out.size))
  clear hb
  clear da10 da11 da12 da13 ta1 da00 da01 da02 ta0
  have da10 := (Rows.bc (HR.out.right.left) 0 rfl).1
  have da11 := (Rows.bc (HR.out.right.left) 1 rfl).1
  have da12 := (Rows.bc (HR.out.right.left) 2 rfl).1
  have da13 := (Rows.bc (HR.out.right.left) 3 rfl).1
  have ta1 := (Rows.bc (HR.out.right.left) 0 rfl).2
  have da00 := (Rows.bc (HR.out.right.right) 0 rfl).1
  have da01 := (Rows.bc (HR.out.right.right) 1 rfl).1
  have da02 := (Rows.bc (HR.out.right.right) 2 rfl).1
  have ta0 := (Rows.bc (HR.out.right.right) 0 rfl).2
  refine hK.out _ _ ⟨da00, da01, da02, da10, da11, da12, da13⟩ (fun hS9 => ?_)
  refine wpAnyH_ready (rs := [4]) (by kernel_rfl) (by simp) ?_
  refine AllReadyH.cons (o := ?oi105) ?hi105 (fun K hK => ?step105) AllReadyH.nil
  case hi105 => simp only [List.getElem?_toArray, List.getElem?_cons_succ, List.getElem?_cons_zero]; rfl
  rw [if_pos (by rfl)]
  go_simp
  go_at_call 17
  refine (cS.out _ _ (Ss0.out.at_ (HR.out.left) F0.out)).mono ?_
  rintro e w5 ⟨v0, rsW0, rfl, hs0, hr, hb⟩
  obtain ⟨fW00, fW01, fW02, rfl⟩ := hs0.form hr
  have SW0 := hid hs0
  clear hs0
  replace HR := hid (HR.out.newer hb hr HB.out.size)
  replace HB := hid (HB.out.trans (hb.mono HB.out.size))
  clear hb hr
  clear da10 da11 da12 da13 ta1 da00 da01 da02 ta0
  have da10 := (Rows.bc (HR.out.right.right.left) 0 rfl).1
  have da11 := (Rows.bc (HR.out.right.right.left) 1 rfl).1
  have da12 := (Rows.bc (HR.out.right.right.left) 2 rfl).1
  have da13 := (Rows.bc (HR.out.right.right.left) 3 rfl).1
  have ta1 := (Rows.bc (HR.out.right.right.left) 0 rfl).2
  have da00 := (Rows.bc (HR.out.right.right.right) 0 rfl).1
  have da01 := (Rows.bc (HR.out.right.right.right) 1 rfl).1
  have da02 := (Rows.bc (HR.out.right.right.right) 2 rfl).1
  have ta0 := (Rows.bc (HR.out.right.right.right) 0 rfl).2
  refine hK.out _ _ ⟨da00, da01, da02, da10, da11, da12, da13⟩ (fun hS9 => ?_)
  refine wpAnyH_take (i := 5) (oi := ?oi106) (v := ?v106) ?hi106 (by kernel_rfl) ?hf106 ?hr106 ?hQ106 (Or.inl ⟨?hw106, ?hy106⟩) (by assumption) ?rest106
  case hi106 => simp only [List.getElem?_toArray, List.getElem?_cons_succ, List.getElem?_cons_zero]; rfl
  case hf106 => kernel_rfl
  case hr106 => kernel_rfl
  case hw106 => rfl
  case hy106 => (intro w hSw; (try dsimp only at hSw); go_simp; all_goals (first | done | with_reducible rfl))
  case hQ106 => exact fun _ _ _ h => h
  simp only [Act.put, List.setIfInBounds_toArray, List.set_cons_zero, List.set_cons_succ]
  refine wpAnyH_done (by kernel_rfl) ?_ _
  replace HR := hid (HR.out.sub ((List.Sublist.refl _).append (List.sublist_append_right _ _)))
  clear Ss0
  go_wp2_with fail
  refine (toTreY_c Aa0 na0 ca0 Ab0 nb0 cb0 d0 w.heap.size _ (T0.out.below HB.out (Nat.le_refl _)) HB.out.size F0.out).mono ?_
  rintro e w6 ⟨v, rsx0, rfl, hs, hr, hb⟩
  obtain ⟨fx00, fx01, fx02, fx03, fx04, fx05, rfl⟩ := hs.form hr
  have Sx0 := hid hs
  clear hs
  replace HR := hid (HR.out.newer hb hr HB.out.size)
  replace HB := hid (HB.out.trans (hb.mono HB.out.size))
  clear hb hr
  clear da10 da11 da12 da13 ta1 da00 da01 da02 ta0
  have da10 := (Rows.bc (HR.out.right.right.left) 0 rfl).1
  have da11 := (Rows.bc (HR.out.right.right.left) 1 rfl).1
  have da12 := (Rows.bc (HR.out.right.right.left) 2 rfl).1
  have da13 := (Rows.bc (HR.out.right.right.left) 3 rfl).1
  have ta1 := (Rows.bc (HR.out.right.right.left) 0 rfl).2
  have da00 := (Rows.bc (HR.out.right.right.right) 0 rfl).1
  have da01 := (Rows.bc (HR.out.right.right.right) 1 rfl).1
  have da02 := (Rows.bc (HR.out.right.right.right) 2 rfl).1
  have ta0 := (Rows.bc (HR.out.right.right.right) 0 rfl).2
  have hb : Below w6.heap.size w6 (w6.alloc (.cells #[.slice fx00 fx01 fx02, .slice fx03 fx04 fx05, .int .i64 d0.2.2] 35)) := (Below.refl _ _).alloc (Nat.le_refl _) _
  have hr := Rows.box w6 #[.slice fx00 fx01 fx02, .slice fx03 fx04 fx05, .int .i64 d0.2.2] 35 3 rfl
  replace HR := hid (HR.out.newer hb hr HB.out.size)
  replace HB := hid (HB.out.trans (hb.mono HB.out.size))
  clear hb hr
  clear da10 da11 da12 da13 ta1 da00 da01 da02 ta0
  have dbx00 := (Rows.bc (HR.out.left) 0 rfl).1
  have dbx01 := (Rows.bc (HR.out.left) 1 rfl).1
  have dbx02 := (Rows.bc (HR.out.left) 2 rfl).1
  have tbx0 := (Rows.bc (HR.out.left) 0 rfl).2
  have da10 := (Rows.bc (HR.out.right.right.right.left) 0 rfl).1
  have da11 := (Rows.bc (HR.out.right.right.right.left) 1 rfl).1
  have da12 := (Rows.bc (HR.out.right.right.right.left) 2 rfl).1
  have da13 := (Rows.bc (HR.out.right.right.right.left) 3 rfl).1
  have ta1 := (Rows.bc (HR.out.right.right.right.left) 0 rfl).2
  have da00 := (Rows.bc (HR.out.right.right.right.right) 0 rfl).1
  have da01 := (Rows.bc (HR.out.right.right.right.right) 1 rfl).1
  have da02 := (Rows.bc (HR.out.right.right.right.right) 2 rfl).1
  have ta0 := (Rows.bc (HR.out.right.right.right.right) 0 rfl).2
  go_wp2_with fail
  refine wp_region_held_drew (S := (fun w' : World => w'.cell? ⟨w6.heap.size, 0, none⟩ = some (.slice fx00 fx01 fx02) ∧ w'.cell? ⟨w6.heap.size, 1, none⟩ = some (.slice fx03 fx04 fx05) ∧ w'.cell? ⟨w6.heap.size, 2, none⟩ = some (.int .i64 d0.2.2) ∧ w'.cell? ⟨w.heap.size + 1, 0, none⟩ = some (.string nm1) ∧ w'.cell? ⟨w.heap.size + 1, 1, none⟩ = some (.int .i64 lv1) ∧ w'.cell? ⟨w.heap.size + 1, 2, none⟩ = some (.string tx1) ∧ w'.cell? ⟨w.heap.size + 1, 3, none⟩ = some (.int .i64 sq1))) (by kernel_rfl) ⟨dbx00, dbx01, dbx02, da10, da11, da12, da13⟩ (fun hS => ?_)
  refine wpAnyH_take (i := 0) (oi := ?oi107) (v := ?v107) ?hi107 (by kernel_rfl) ?hf107 ?hr107 ?hQ107 (Or.inl ⟨?hw107, ?hy107⟩) (by assumption) ?rest107
  case hi107 => simp only [List.getElem?_toArray, List.getElem?_cons_succ, List.getElem?_cons_zero]; rfl
  case hf107 => kernel_rfl
  case hr107 => kernel_rfl
  case hw107 => rfl
  case hy107 => (intro w hSw; (try dsimp only at hSw); go_simp; all_goals (first | done | with_reducible rfl))
  case hQ107 => exact fun _ _ _ h => h
  simp only [Act.put, List.setIfInBounds_toArray, List.set_cons_zero, List.set_cons_succ]
  refine wpAnyH_take (i := 1) (oi := ?oi108) (v := ?v108) ?hi108 (by kernel_rfl) ?hf108 ?hr108 ?hQ108 (Or.inl ⟨?hw108, ?hy108⟩) (by assumption) ?rest108
  case hi108 => simp only [List.getElem?_toArray, List.getElem?_cons_succ, List.getElem?_cons_zero]; rfl
  case hf108 => kernel_rfl
  case hr108 => kernel_rfl
  case hw108 => rfl
  case hy108 => (intro w hSw; (try dsimp only at hSw); go_simp; all_goals (first | done | with_reducible rfl))
  case hQ108 => exact fun _ _ _ h => h
  simp only [Act.put, List.setIfInBounds_toArray, List.set_cons_zero, List.set_cons_succ]
  replace HR := hid (HR.out.below ((Below.refl (w6.alloc (.cells #[.slice fx00 fx01 fx02, .slice fx03 fx04 fx05, .int .i64 d0.2.2] 35)).heap.size (w6.alloc (.cells #[.slice fx00 fx01 fx02, .slice fx03 fx04 fx05, .int .i64 d0.2.2] 35))).drew))
  replace HB := hid HB.out.drew
  clear dbx00 dbx01 dbx02 tbx0 da10 da11 da12 da13 ta1 da00 da01 da02 ta0
  have dbx00 := (Rows.bc (HR.out.left) 0 rfl).1
  have dbx01 := (Rows.bc (HR.out.left) 1 rfl).1
  have dbx02 := (Rows.bc (HR.out.left) 2 rfl).1
  have tbx0 := (Rows.bc (HR.out.left) 0 rfl).2
  have da10 := (Rows.bc (HR.out.right.right.right.left) 0 rfl).1
  have da11 := (Rows.bc (HR.out.right.right.right.left) 1 rfl).1
  have da12 := (Rows.bc (HR.out.right.right.right.left) 2 rfl).1
  have da13 := (Rows.bc (HR.out.right.right.right.left) 3 rfl).1
  have ta1 := (Rows.bc (HR.out.right.right.right.left) 0 rfl).2
  have da00 := (Rows.bc (HR.out.right.right.right.right) 0 rfl).1
  have da01 := (Rows.bc (HR.out.right.right.right.right) 1 rfl).1
  have da02 := (Rows.bc (HR.out.right.right.right.right) 2 rfl).1
  have ta0 := (Rows.bc (HR.out.right.right.right.right) 0 rfl).2
  refine wpAnyH_ready (rs := [2]) (by kernel_rfl) (by simp) ?_
  refine AllReadyH.cons (o := ?oi109) ?hi109 (fun K hK => ?step109) AllReadyH.nil
  case hi109 => simp only [List.getElem?_toArray, List.getElem?_cons_succ, List.getElem?_cons_zero]; rfl
  rw [if_pos (by rfl)]
  go_simp
  go_at_call 10
  refine (toRecord_c nm1 lv1 tx1 sq1 _).mono ?_
  rintro e w7 ⟨rfl, hb⟩
  replace HR := hid (HR.out.below hb)
  replace HB := hid (HB.out.trans (hb.mono HB.out.size))
  clear hb
  clear dbx00 dbx01 dbx02 tbx0 da10 da11 da12 da13 ta1 da00 da01 da02 ta0
  have dbx00 := (Rows.bc (HR.out.left) 0 rfl).1
  have dbx01 := (Rows.bc (HR.out.left) 1 rfl).1
  have dbx02 := (Rows.bc (HR.out.left) 2 rfl).1
  have tbx0 := (Rows.bc (HR.out.left) 0 rfl).2
  have da10 := (Rows.bc (HR.out.right.right.right.left) 0 rfl).1
  have da11 := (Rows.bc (HR.out.right.right.right.left) 1 rfl).1
  have da12 := (Rows.bc (HR.out.right.right.right.left) 2 rfl).1
  have da13 := (Rows.bc (HR.out.right.right.right.left) 3 rfl).1
  have ta1 := (Rows.bc (HR.out.right.right.right.left) 0 rfl).2
  have da00 := (Rows.bc (HR.out.right.right.right.right) 0 rfl).1
  have da01 := (Rows.bc (HR.out.right.right.right.right) 1 rfl).1
  have da02 := (Rows.bc (HR.out.right.right.right.right) 2 rfl).1
  have ta0 := (Rows.bc (HR.out.right.right.right.right) 0 rfl).2
  refine hK.out _ _ ⟨dbx00, dbx01, dbx02, da10, da11, da12, da13⟩ (fun hS9 => ?_)
  refine wpAnyH_ready (rs := [3]) (by kernel_rfl) (by simp) ?_
  refine AllReadyH.cons (o := ?oi110) ?hi110 (fun K hK => ?step110) AllReadyH.nil
  case hi110 => simp only [List.getElem?_toArray, List.getElem?_cons_succ, List.getElem?_cons_zero]; rfl
  rw [if_pos (by rfl)]
  go_simp
  go_at_call 18
  refine (cI.out _ _ (Sx0.out.at_ (HR.out.right.left) F0.out)).mono ?_
  rintro e w8 ⟨v0, rsG0, rfl, hs0, hr, hb⟩
  obtain ⟨fG00, fG01, fG02, rfl⟩ := hs0.form hr
  have SG0 := hid hs0
  clear hs0
  replace HR := hid (HR.out.newer hb hr HB.out.size)
  replace HB := hid (HB.out.trans (hb.mono HB.out.size))
  clear hb hr
  clear dbx00 dbx01 dbx02 tbx0 da10 da11 da12 da13 ta1 da00 da01 da02 ta0
  have dbx00 := (Rows.bc (HR.out.right.left) 0 rfl).1
  have dbx01 := (Rows.bc (HR.out.right.left) 1 rfl).1
  have dbx02 := (Rows.bc (HR.out.right.left) 2 rfl).1
  have tbx0 := (Rows.bc (HR.out.right.left) 0 rfl).2
  have da10 := (Rows.bc (HR.out.right.right.right.right.left) 0 rfl).1
  have da11 := (Rows.bc (HR.out.right.right.right.right.left) 1 rfl).1
  have da12 := (Rows.bc (HR.out.right.right.right.right.left) 2 rfl).1
  have da13 := (Rows.bc (HR.out.right.right.right.right.left) 3 rfl).1
  have ta1 := (Rows.bc (HR.out.right.right.right.right.left) 0 rfl).2
  have da00 := (Rows.bc (HR.out.right.right.right.right.right) 0 rfl).1
  have da01 := (Rows.bc (HR.out.right.right.right.right.right) 1 rfl).1
  have da02 := (Rows.bc (HR.out.right.right.right.right.right) 2 rfl).1
  have ta0 := (Rows.bc (HR.out.right.right.right.right.right) 0 rfl).2
  refine hK.out _ _ ⟨dbx00, dbx01, dbx02, da10, da11, da12, da13⟩ (fun hS9 => ?_)
  refine wpAnyH_take (i := 4) (oi := ?oi111) (v := ?v111) ?hi111 (by kernel_rfl) ?hf111 ?hr111 ?hQ111 (Or.inl ⟨?hw111, ?hy111⟩) (by assumption) ?rest111
  case hi111 => simp only [List.getElem?_toArray, List.getElem?_cons_succ, List.getElem?_cons_zero]; rfl
  case hf111 => kernel_rfl
  case hr111 => kernel_rfl
  case hw111 => rfl
  case hy111 => (intro w hSw; (try dsimp only at hSw); go_simp; all_goals (first | done | with_reducible rfl))
  case hQ111 => exact fun _ _ _ h => h
  simp only [Act.put, List.setIfInBounds_toArray, List.set_cons_zero, List.set_cons_succ]
  refine wpAnyH_done (by kernel_rfl) ?_ _
  go_wp2_with fail
  refine (eqRsnsX_c SG0.out (HR.out.left) SW0.out (HR.out.right.right.right.left)).mono ?_
  rintro e w9 ⟨rfl, hb⟩
  replace HR := hid (HR.out.below hb)
  replace HB := hid (HB.out.trans (hb.mono HB.out.size))
  clear hb
  clear dbx00 dbx01 dbx02 tbx0 da10 da11 da12 da13 ta1 da00 da01 da02 ta0
  have dbx00 := (Rows.bc (HR.out.right.left) 0 rfl).1
  have dbx01 := (Rows.bc (HR.out.right.left) 1 rfl).1
  have dbx02 := (Rows.bc (HR.out.right.left) 2 rfl).1
  have tbx0 := (Rows.bc (HR.out.right.left) 0 rfl).2
  have da10 := (Rows.bc (HR.out.right.right.right.right.left) 0 rfl).1
  have da11 := (Rows.bc (HR.out.right.right.right.right.left) 1 rfl).1
  have da12 := (Rows.bc (HR.out.right.right.right.right.left) 2 rfl).1
  have da13 := (Rows.bc (HR.out.right.right.right.right.left) 3 rfl).1
  have ta1 := (Rows.bc (HR.out.right.right.right.right.left) 0 rfl).2
  have da00 := (Rows.bc (HR.out.right.right.right.right.right) 0 rfl).1
  have da01 := (Rows.bc (HR.out.right.right.right.right.right) 1 rfl).1
  have da02 := (Rows.bc (HR.out.right.right.right.right.right) 2 rfl).1
  have ta0 := (Rows.bc (HR.out.right.right.right.right.right) 0 rfl).2
  go_wp2_with fail
  refine wp_region_held_drew (S := (fun w' : World => w'.cell? ⟨w6.heap.size, 0, none⟩ = some (.slice fx00 fx01 fx02) ∧ w'.cell? ⟨w6.heap.size, 1, none⟩ = some (.slice fx03 fx04 fx05) ∧ w'.cell? ⟨w6.heap.size, 2, none⟩ = some (.int .i64 d0.2.2) ∧ w'.cell? ⟨w.heap.size, 0, none⟩ = some (.slice Aa0 na0 ca0) ∧ w'.cell? ⟨w.heap.size, 1, none⟩ = some (.slice Ab0 nb0 cb0) ∧ w'.cell? ⟨w.heap.size, 2, none⟩ = some (.int .i64 d0.2.2))) (by kernel_rfl) ⟨dbx00, dbx01, dbx02, da00, da01, da02⟩ (fun hS => ?_)
  refine wpAnyH_take (i := 0) (oi := ?oi112) (v := ?v112) ?hi112 (by kernel_rfl) ?hf112 ?hr112 ?hQ112 (Or.inl ⟨?hw112, ?hy112⟩) (by assumption) ?rest112
  case hi112 => simp only [List.getElem?_toArray, List.getElem?_cons_succ, List.getElem?_cons_zero]; rfl
  case hf112 => kernel_rfl
  case hr112 => kernel_rfl
  case hw112 => rfl
  case hy112 => (intro w hSw; (try dsimp only at hSw); go_simp; all_goals (first | done | with_reducible rfl))
  case hQ112 => exact fun _ _ _ h => h
  simp only [Act.put, List.setIfInBounds_toArray, List.set_cons_zero, List.set_cons_succ]
  refine wpAnyH_take (i := 1) (oi := ?oi113) (v := ?v113) ?hi113 (by kernel_rfl) ?hf113 ?hr113 ?hQ113 (Or.inl ⟨?hw113, ?hy113⟩) (by assumption) ?rest113
  case hi113 => simp only [List.getElem?_toArray, List.getElem?_cons_succ, List.getElem?_cons_zero]; rfl
  case hf113 => kernel_rfl
  case hr113 => kernel_rfl
  case hw113 => rfl
  case hy113 => (intro w hSw; (try dsimp only at hSw); go_simp; all_goals (first | done | with_reducible rfl))
  case hQ113 => exact fun _ _ _ h => h
  simp only [Act.put, List.setIfInBounds_toArray, List.set_cons_zero, List.set_cons_succ]
  replace HR := hid (HR.out.below ((Below.refl w9.heap.size w9).drew))
  replace HB := hid HB.out.drew
  clear dbx00 dbx01 dbx02 tbx0 da10 da11 da12 da13 ta1 da00 da01 da02 ta0
  have dbx00 := (Rows.bc (HR.out.right.left) 0 rfl).1
  have dbx01 := (Rows.bc (HR.out.right.left) 1 rfl).1
  have dbx02 := (Rows.bc (HR.out.right.left) 2 rfl).1
  have tbx0 := (Rows.bc (HR.out.right.left) 0 rfl).2
  have da10 := (Rows.bc (HR.out.right.right.right.right.left) 0 rfl).1
  have da11 := (Rows.bc (HR.out.right.right.right.right.left) 1 rfl).1
  have da12 := (Rows.bc (HR.out.right.right.right.right.left) 2 rfl).1
  have da13 := (Rows.bc (HR.out.right.right.right.right.left) 3 rfl).1
  have ta1 := (Rows.bc (HR.out.right.right.right.right.left) 0 rfl).2
  have da00 := (Rows.bc (HR.out.right.right.right.right.right) 0 rfl).1
  have da01 := (Rows.bc (HR.out.right.right.right.right.right) 1 rfl).1
  have da02 := (Rows.bc (HR.out.right.right.right.right.right) 2 rfl).1
  have ta0 := (Rows.bc (HR.out.right.right.right.right.right) 0 rfl).2
  refine wpAnyH_ready (rs := [2]) (by kernel_rfl) (by simp) ?_
  refine AllReadyH.cons (o := ?oi114) ?hi114 (fun K hK => ?step114) AllReadyH.nil
  case hi114 => simp only [List.getElem?_toArray, List.getElem?_cons_succ, List.getElem?_cons_zero]; rfl
  rw [if_pos (by rfl)]
  go_simp
  go_at_call 9
  refine (toTreY_c Aa0 na0 ca0 Ab0 nb0 cb0 d0 w.heap.size _ (T0.out.below HB.out (Nat.le_refl _)) HB.out.size F0.out).mono ?_
  rintro e w10 ⟨v, rsy0, rfl, hs, hr, hb⟩
  obtain ⟨fy00, fy01, fy02, fy03, fy04, fy05, rfl⟩ := hs.form hr
  have Sy0 := hid hs
  clear hs
  replace HR := hid (HR.out.newer hb hr HB.out.size)
  replace HB := hid (HB.out.trans (hb.mono HB.out.size))
  clear hb hr
  clear dbx00 dbx01 dbx02 tbx0 da10 da11 da12 da13 ta1 da00 da01 da02 ta0
  have dbx00 := (Rows.bc (HR.out.right.right.left) 0 rfl).1
  have dbx01 := (Rows.bc (HR.out.right.right.left) 1 rfl).1
  have dbx02 := (Rows.bc (HR.out.right.right.left) 2 rfl).1
  have tbx0 := (Rows.bc (HR.out.right.right.left) 0 rfl).2
  have da10 := (Rows.bc (HR.out.right.right.right.right.right.left) 0 rfl).1
  have da11 := (Rows.bc (HR.out.right.right.right.right.right.left) 1 rfl).1
  have da12 := (Rows.bc (HR.out.right.right.right.right.right.left) 2 rfl).1
  have da13 := (Rows.bc (HR.out.right.right.right.right.right.left) 3 rfl).1
  have ta1 := (Rows.bc (HR.out.right.right.right.right.right.left) 0 rfl).2
  have da00 := (Rows.bc (HR.out.right.right.right.right.right.right) 0 rfl).1
  have da01 := (Rows.bc (HR.out.right.right.right.right.right.right) 1 rfl).1
  have da02 := (Rows.bc (HR.out.right.right.right.right.right.right) 2 rfl).1
  have ta0 := (Rows.bc (HR.out.right.right.right.right.right.right) 0 rfl).2
  refine hK.out _ _ ⟨dbx00, dbx01, dbx02, da00, da01, da02⟩ (fun hS9 => ?_)
  refine wpAnyH_ready (rs := [3]) (by kernel_rfl) (by simp) ?_
  refine AllReadyH.cons (o := ?oi115) ?hi115 (fun K hK => ?step115) AllReadyH.nil
  case hi115 => simp only [List.getElem?_toArray, List.getElem?_cons_succ, List.getElem?_cons_zero]; rfl
  rw [if_pos (by rfl)]
  go_simp
  go_at_call 13
  refine (eqTreX_c Sx0.out (HR.out.right.right.right.left) Sy0.out (HR.out.left) F0.out).mono ?_
  rintro e w11 ⟨rfl, hb⟩
  replace HR := hid (HR.out.below hb)
  replace HB := hid (HB.out.trans (hb.mono HB.out.size))
  clear hb
  clear dbx00 dbx01 dbx02 tbx0 da10 da11 da12 da13 ta1 da00 da01 da02 ta0
  have dbx00 := (Rows.bc (HR.out.right.right.left) 0 rfl).1
  have dbx01 := (Rows.bc (HR.out.right.right.left) 1 rfl).1
  have dbx02 := (Rows.bc (HR.out.right.right.left) 2 rfl).1
  have tbx0 := (Rows.bc (HR.out.right.right.left) 0 rfl).2
  have da10 := (Rows.bc (HR.out.right.right.right.right.right.left) 0 rfl).1
  have da11 := (Rows.bc (HR.out.right.right.right.right.right.left) 1 rfl).1
  have da12 := (Rows.bc (HR.out.right.right.right.right.right.left) 2 rfl).1
  have da13 := (Rows.bc (HR.out.right.right.right.right.right.left) 3 rfl).1
  have ta1 := (Rows.bc (HR.out.right.right.right.right.right.left) 0 rfl).2
  have da00 := (Rows.bc (HR.out.right.right.right.right.right.right) 0 rfl).1
  have da01 := (Rows.bc (HR.out.right.right.right.right.right.right) 1 rfl).1
  have da02 := (Rows.bc (HR.out.right.right.right.right.right.right) 2 rfl).1
  have ta0 := (Rows.bc (HR.out.right.right.right.right.right.right) 0 rfl).2
  refine hK.out _ _ ⟨dbx00, dbx01, dbx02, da00, da01, da02⟩ (fun hS9 => ?_)
  refine wpAnyH_take (i := 4) (oi := ?oi116) (v := ?v116) ?hi116 (by kernel_rfl) ?hf116 ?hr116 ?hQ116 (Or.inl ⟨?hw116, ?hy116⟩) (by assumption) ?rest116
  case hi116 => simp only [List.getElem?_toArray, List.getElem?_cons_succ, List.getElem?_cons_zero]; rfl
  case hf116 => kernel_rfl
  case hr116 => kernel_rfl
  case hw116 => rfl
  case hy116 => (intro w hSw; (try dsimp only at hSw); go_simp; all_goals (first | done | with_reducible rfl))
  case hQ116 => exact fun _ _ _ h => h
  simp only [Act.put, List.setIfInBounds_toArray, List.set_cons_zero, List.set_cons_succ]
  refine wpAnyH_done (by kernel_rfl) ?_ _
  replace HR := hid (HR.out.sub (List.sublist_append_right _ _))
  clear Sy0
  clear dbx00 dbx01 dbx02 tbx0 da10 da11 da12 da13 ta1 da00 da01 da02 ta0
  have dbx00 := (Rows.bc (HR.out.right.left) 0 rfl).1
  have dbx01 := (Rows.bc (HR.out.right.left) 1 rfl).1
  have dbx02 := (Rows.bc (HR.out.right.left) 2 rfl).1
  have tbx0 := (Rows.bc (HR.out.right.left) 0 rfl).2
  have da10 := (Rows.bc (HR.out.right.right.right.right.left) 0 rfl).1
  have da11 := (Rows.bc (HR.out.right.right.right.right.left) 1 rfl).1
  have da12 := (Rows.bc (HR.out.right.right.right.right.left) 2 rfl).1
  have da13 := (Rows.bc (HR.out.right.right.right.right.left) 3 rfl).1
  have ta1 := (Rows.bc (HR.out.right.right.right.right.left) 0 rfl).2
  have da00 := (Rows.bc (HR.out.right.right.right.right.right) 0 rfl).1
  have da01 := (Rows.bc (HR.out.right.right.right.right.right) 1 rfl).1
  have da02 := (Rows.bc (HR.out.right.right.right.right.right) 2 rfl).1
  have ta0 := (Rows.bc (HR.out.right.right.right.right.right) 0 rfl).2
  replace HR := hid (HR.out.perm (((List.perm_append_comm_assoc _ _ _).append_left _).trans (List.perm_append_comm_assoc _ _ _)))
  go_wp2_with fail
  refine (markTreX_c (k := 1) Sx0.out HR.out HB.out.size F0.out (by omega)).mono ?_
  rintro e w12 ⟨rx0, rsx0, rfl, hM, hr, hb, hlx0⟩
  replace HR := hid hr
  replace HB := hid (HB.out.trans hb)
  have Mx0 := hid hM
  clear hr hb hM Sx0
  clear dbx00 dbx01 dbx02 tbx0 da10 da11 da12 da13 ta1 da00 da01 da02 ta0
  have dbx00 := (Rows.bc (HR.out.right.right.left) 0 rfl).1
  have dbx01 := (Rows.bc (HR.out.right.right.left) 1 rfl).1
  have dbx02 := (Rows.bc (HR.out.right.right.left) 2 rfl).1
  have tbx0 := (Rows.bc (HR.out.right.right.left) 0 rfl).2
  have da10 := (Rows.bc (HR.out.right.right.right.right.left) 0 rfl).1
  have da11 := (Rows.bc (HR.out.right.right.right.right.left) 1 rfl).1
  have da12 := (Rows.bc (HR.out.right.right.right.right.left) 2 rfl).1
  have da13 := (Rows.bc (HR.out.right.right.right.right.left) 3 rfl).1
  have ta1 := (Rows.bc (HR.out.right.right.right.right.left) 0 rfl).2
  have da00 := (Rows.bc (HR.out.right.right.right.right.right) 0 rfl).1
  have da01 := (Rows.bc (HR.out.right.right.right.right.right) 1 rfl).1
  have da02 := (Rows.bc (HR.out.right.right.right.right.right) 2 rfl).1
  have ta0 := (Rows.bc (HR.out.right.right.right.right.right) 0 rfl).2
  replace HR := hid (HR.out.sub (List.sublist_append_right _ _))
  clear Mx0
  replace HR := hid (HR.out.sub ((List.Sublist.refl _).append (List.sublist_append_right _ _)))
  clear dbx00 dbx01 dbx02 tbx0 da10 da11 da12 da13 ta1 da00 da01 da02 ta0
  have da10 := (Rows.bc (HR.out.right.right.left) 0 rfl).1
  have da11 := (Rows.bc (HR.out.right.right.left) 1 rfl).1
  have da12 := (Rows.bc (HR.out.right.right.left) 2 rfl).1
  have da13 := (Rows.bc (HR.out.right.right.left) 3 rfl).1
  have ta1 := (Rows.bc (HR.out.right.right.left) 0 rfl).2
  have da00 := (Rows.bc (HR.out.right.right.right) 0 rfl).1
  have da01 := (Rows.bc (HR.out.right.right.right) 1 rfl).1
  have da02 := (Rows.bc (HR.out.right.right.right) 2 rfl).1
  have ta0 := (Rows.bc (HR.out.right.right.right) 0 rfl).2
  go_wp2_with fail
  refine (eqRsnsX_c SG0.out (HR.out.left) SW0.out (HR.out.right.left)).mono ?_
  rintro e w13 ⟨rfl, hb⟩
  replace HR := hid (HR.out.below hb)
  replace HB := hid (HB.out.trans (hb.mono HB.out.size))
  clear hb
  clear da10 da11 da12 da13 ta1 da00 da01 da02 ta0
  have da10 := (Rows.bc (HR.out.right.right.left) 0 rfl).1
  have da11 := (Rows.bc (HR.out.right.right.left) 1 rfl).1
  have da12 := (Rows.bc (HR.out.right.right.left) 2 rfl).1
  have da13 := (Rows.bc (HR.out.right.right.left) 3 rfl).1
  have ta1 := (Rows.bc (HR.out.right.right.left) 0 rfl).2
  have da00 := (Rows.bc (HR.out.right.right.right) 0 rfl).1
  have da01 := (Rows.bc (HR.out.right.right.right) 1 rfl).1
  have da02 := (Rows.bc (HR.out.right.right.right) 2 rfl).1
  have ta0 := (Rows.bc (HR.out.right.right.right) 0 rfl).2
  go_wp2_with fail
  refine (markRsnsX_c (k := 1) SG0.out HR.out HB.out.size DX0.out (by omega)).mono ?_
  rintro e w14 ⟨rG0, rsG0, rfl, hM, hr, hb, hlG0⟩
  replace HR := hid hr
  replace HB := hid (HB.out.trans hb)
  have MG0 := hid hM
  clear hr hb hM SG0
  clear da10 da11 da12 da13 ta1 da00 da01 da02 ta0
  have da10 := (Rows.bc (HR.out.right.right.left) 0 rfl).1
  have da11 := (Rows.bc (HR.out.right.right.left) 1 rfl).1
  have da12 := (Rows.bc (HR.out.right.right.left) 2 rfl).1
  have da13 := (Rows.bc (HR.out.right.right.left) 3 rfl).1
  have ta1 := (Rows.bc (HR.out.right.right.left) 0 rfl).2
  have da00 := (Rows.bc (HR.out.right.right.right) 0 rfl).1
  have da01 := (Rows.bc (HR.out.right.right.right) 1 rfl).1
  have da02 := (Rows.bc (HR.out.right.right.right) 2 rfl).1
  have ta0 := (Rows.bc (HR.out.right.right.right) 0 rfl).2
  go_wp2_with fail
  refine (heldRsnsX_c MG0.out (HR.out.left)).mono ?_
  rintro e w15 ⟨rfl, hb⟩
  replace HR := hid (HR.out.below hb)
  replace HB := hid (HB.out.trans (hb.mono HB.out.size))
  clear hb
  clear da10 da11 da12 da13 ta1 da00 da01 da02 ta0
  have da10 := (Rows.bc (HR.out.right.right.left) 0 rfl).1
  have da11 := (Rows.bc (HR.out.right.right.left) 1 rfl).1
  have da12 := (Rows.bc (HR.out.right.right.left) 2 rfl).1
  have da13 := (Rows.bc (HR.out.right.right.left) 3 rfl).1
  have ta1 := (Rows.bc (HR.out.right.right.left) 0 rfl).2
  have da00 := (Rows.bc (HR.out.right.right.right) 0 rfl).1
  have da01 := (Rows.bc (HR.out.right.right.right) 1 rfl).1
  have da02 := (Rows.bc (HR.out.right.right.right) 2 rfl).1
  have ta0 := (Rows.bc (HR.out.right.right.right) 0 rfl).2
  go_wp2_with fail
  refine wp_region_held_drew (S := (fun w' : World => w'.cell? ⟨w.heap.size, 0, none⟩ = some (.slice Aa0 na0 ca0) ∧ w'.cell? ⟨w.heap.size, 1, none⟩ = some (.slice Ab0 nb0 cb0) ∧ w'.cell? ⟨w.heap.size, 2, none⟩ = some (.int .i64 d0.2.2) ∧ w'.cell? ⟨w.heap.size + 1, 0, none⟩ = some (.string nm1) ∧ w'.cell? ⟨w.heap.size + 1, 1, none⟩ = some (.int .i64 lv1) ∧ w'.cell? ⟨w.heap.size + 1, 2, none⟩ = some (.string tx1) ∧ w'.cell? ⟨w.heap.size + 1, 3, none⟩ = some (.int .i64 sq1))) (by kernel_rfl) ⟨da00, da01, da02, da10, da11, da12, da13⟩ (fun hS => ?_)
  refine wpAnyH_take (i := 0) (oi := ?oi117) (v := ?v117) ?hi117 (by kernel_rfl) ?hf117 ?hr117 ?hQ117 (Or.inl ⟨?hw117, ?hy117⟩) (by assumption) ?rest117
  case hi117 => simp only [List.getElem?_toArray, List.getElem?_cons_succ, List.getElem?_cons_zero]; rfl
  case hf117 => kernel_rfl
  case hr117 => kernel_rfl
  case hw117 => rfl
  case hy117 => (intro w hSw; (try dsimp only at hSw); go_simp; all_goals (first | done | with_reducible rfl))
  case hQ117 => exact fun _ _ _ h => h
  simp only [Act.put, List.setIfInBounds_toArray, List.set_cons_zero, List.set_cons_succ]
  refine wpAnyH_take (i := 2) (oi := ?oi118) (v := ?v118) ?hi118 (by kernel_rfl) ?hf118 ?hr118 ?hQ118 (Or.inl ⟨?hw118, ?hy118⟩) (by assumption) ?rest118
  case hi118 => simp only [List.getElem?_toArray, List.getElem?_cons_succ, List.getElem?_cons_zero]; rfl
  case hf118 => kernel_rfl
  case hr118 => kernel_rfl
  case hw118 => rfl
  case hy118 => (intro w hSw; (try dsimp only at hSw); go_simp; all_goals (first | done | with_reducible rfl))
  case hQ118 => exact fun _ _ _ h => h
  simp only [Act.put, List.setIfInBounds_toArray, List.set_cons_zero, List.set_cons_succ]
  replace HR := hid (HR.out.below ((Below.refl w15.heap.size w15).drew))
  replace HB := hid HB.out.drew
  clear da10 da11 da12 da13 ta1 da00 da01 da02 ta0
  have da10 := (Rows.bc (HR.out.right.right.left) 0 rfl).1
  have da11 := (Rows.bc (HR.out.right.right.left) 1 rfl).1
  have da12 := (Rows.bc (HR.out.right.right.left) 2 rfl).1
  have da13 := (Rows.bc (HR.out.right.right.left) 3 rfl).1
  have ta1 := (Rows.bc (HR.out.right.right.left) 0 rfl).2
  have da00 := (Rows.bc (HR.out.right.right.right) 0 rfl).1
  have da01 := (Rows.bc (HR.out.right.right.right) 1 rfl).1
  have da02 := (Rows.bc (HR.out.right.right.right) 2 rfl).1
  have ta0 := (Rows.bc (HR.out.right.right.right) 0 rfl).2
  refine wpAnyH_ready (rs := [1]) (by kernel_rfl) (by simp) ?_
  refine AllReadyH.cons (o := ?oi119) ?hi119 (fun K hK => ?step119) AllReadyH.nil
  case hi119 => simp only [List.getElem?_toArray, List.getElem?_cons_succ, List.getElem?_cons_zero]; rfl
  rw [if_pos (by rfl)]
  go_simp
  go_at_call 9
  refine (toTreY_c Aa0 na0 ca0 Ab0 nb0 cb0 d0 w.heap.size _ (T0.out.below HB.out (Nat.le_refl _)) HB.out.size F0.out).mono ?_
  rintro e w16 ⟨v, rsz0, rfl, hs, hr, hb⟩
  obtain ⟨fz00, fz01, fz02, fz03, fz04, fz05, rfl⟩ := hs.form hr
  have Sz0 := hid hs
  clear hs
  replace HR := hid (HR.out.newer hb hr HB.out.size)
  replace HB := hid (HB.out.trans (hb.mono HB.out.size))
  clear hb hr
  clear da10 da11 da12 da13 ta1 da00 da01 da02 ta0
  have da10 := (Rows.bc (HR.out.right.right.right.left) 0 rfl).1
  have da11 := (Rows.bc (HR.out.right.right.right.left) 1 rfl).1
  have da12 := (Rows.bc (HR.out.right.right.right.left) 2 rfl).1
  have da13 := (Rows.bc (HR.out.right.right.right.left) 3 rfl).1
  have ta1 := (Rows.bc (HR.out.right.right.right.left) 0 rfl).2
  have da00 := (Rows.bc (HR.out.right.right.right.right) 0 rfl).1
  have da01 := (Rows.bc (HR.out.right.right.right.right) 1 rfl).1
  have da02 := (Rows.bc (HR.out.right.right.right.right) 2 rfl).1
  have ta0 := (Rows.bc (HR.out.right.right.right.right) 0 rfl).2
  refine hK.out _ _ ⟨da00, da01, da02, da10, da11, da12, da13⟩ (fun hS9 => ?_)
  refine wpAnyH_ready (rs := [3]) (by kernel_rfl) (by simp) ?_
  refine AllReadyH.cons (o := ?oi120) ?hi120 (fun K hK => ?step120) AllReadyH.nil
  case hi120 => simp only [List.getElem?_toArray, List.getElem?_cons_succ, List.getElem?_cons_zero]; rfl
  rw [if_pos (by rfl)]
  go_simp
  go_at_call 10
  refine (toRecord_c nm1 lv1 tx1 sq1 _).mono ?_
  rintro e w17 ⟨rfl, hb⟩
  replace HR := hid (HR.out.below hb)
  replace HB := hid (HB.out.trans (hb.mono HB.out.size))
  clear hb
  clear da10 da11 da12 da13 ta1 da00 da01 da02 ta0
  have da10 := (Rows.bc (HR.out.right.right.right.left) 0 rfl).1
  have da11 := (Rows.bc (HR.out.right.right.right.left) 1 rfl).1
  have da12 := (Rows.bc (HR.out.right.right.right.left) 2 rfl).1
  have da13 := (Rows.bc (HR.out.right.right.right.left) 3 rfl).1
  have ta1 := (Rows.bc (HR.out.right.right.right.left) 0 rfl).2
  have da00 := (Rows.bc (HR.out.right.right.right.right) 0 rfl).1
  have da01 := (Rows.bc (HR.out.right.right.right.right) 1 rfl).1
  have da02 := (Rows.bc (HR.out.right.right.right.right) 2 rfl).1
  have ta0 := (Rows.bc (HR.out.right.right.right.right) 0 rfl).2
  refine hK.out _ _ ⟨da00, da01, da02, da10, da11, da12, da13⟩ (fun hS9 => ?_)
  refine wpAnyH_ready (rs := [4]) (by kernel_rfl) (by simp) ?_
  refine AllReadyH.cons (o := ?oi121) ?hi121 (fun K hK => ?step121) AllReadyH.nil
  case hi121 => simp only [List.getElem?_toArray, List.getElem?_cons_succ, List.getElem?_cons_zero]; rfl
  rw [if_pos (by rfl)]
  go_simp
  go_at_call 18
  refine (cI.out _ _ (Sz0.out.at_ (HR.out.left) F0.out)).mono ?_
  rintro e w18 ⟨v0, rsh0, rfl, hs0, hr, hb⟩
  obtain ⟨fh00, fh01, fh02, rfl⟩ := hs0.form hr
  have Sh0 := hid hs0
  clear hs0
  replace HR := hid (HR.out.newer hb hr HB.out.size)
  replace HB := hid (HB.out.trans (hb.mono HB.out.size))
  clear hb hr
  clear da10 da11 da12 da13 ta1 da00 da01 da02 ta0
  have da10 := (Rows.bc (HR.out.right.right.right.right.left) 0 rfl).1
  have da11 := (Rows.bc (HR.out.right.right.right.right.left) 1 rfl).1
  have da12 := (Rows.bc (HR.out.right.right.right.right.left) 2 rfl).1
  have da13 := (Rows.bc (HR.out.right.right.right.right.left) 3 rfl).1
  have ta1 := (Rows.bc (HR.out.right.right.right.right.left) 0 rfl).2
  have da00 := (Rows.bc (HR.out.right.right.right.right.right) 0 rfl).1
  have da01 := (Rows.bc (HR.out.right.right.right.right.right) 1 rfl).1
  have da02 := (Rows.bc (HR.out.right.right.right.right.right) 2 rfl).1
  have ta0 := (Rows.bc (HR.out.right.right.right.right.right) 0 rfl).2
  refine hK.out _ _ ⟨da00, da01, da02, da10, da11, da12, da13⟩ (fun hS9 => ?_)
  refine wpAnyH_take (i := 5) (oi := ?oi122) (v := ?v122) ?hi122 (by kernel_rfl) ?hf122 ?hr122 ?hQ122 (Or.inl ⟨?hw122, ?hy122⟩) (by assumption) ?rest122
  case hi122 => simp only [List.getElem?_toArray, List.getElem?_cons_succ, List.getElem?_cons_zero]; rfl
  case hf122 => kernel_rfl
  case hr122 => kernel_rfl
  case hw122 => rfl
  case hy122 => (intro w hSw; (try dsimp only at hSw); go_simp; all_goals (first | done | with_reducible rfl))
  case hQ122 => exact fun _ _ _ h => h
  simp only [Act.put, List.setIfInBounds_toArray, List.set_cons_zero, List.set_cons_succ]
  refine wpAnyH_done (by kernel_rfl) ?_ _
  replace HR := hid (HR.out.sub ((List.Sublist.refl _).append (List.sublist_append_right _ _)))
  clear Sz0
  go_wp2_with fail
  refine (eqRsnsX_c Sh0.out (HR.out.left) SW0.out (HR.out.right.right.left)).mono ?_
  rintro e w19 ⟨rfl, hb⟩
  replace HR := hid (HR.out.below hb)
  replace HB := hid (HB.out.trans (hb.mono HB.out.size))
  clear hb
  clear da10 da11 da12 da13 ta1 da00 da01 da02 ta0
  have da10 := (Rows.bc (HR.out.right.right.right.left) 0 rfl).1
  have da11 := (Rows.bc (HR.out.right.right.right.left) 1 rfl).1
  have da12 := (Rows.bc (HR.out.right.right.right.left) 2 rfl).1
  have da13 := (Rows.bc (HR.out.right.right.right.left) 3 rfl).1
  have ta1 := (Rows.bc (HR.out.right.right.right.left) 0 rfl).2
  have da00 := (Rows.bc (HR.out.right.right.right.right) 0 rfl).1
  have da01 := (Rows.bc (HR.out.right.right.right.right) 1 rfl).1
  have da02 := (Rows.bc (HR.out.right.right.right.right) 2 rfl).1
  have ta0 := (Rows.bc (HR.out.right.right.right.right) 0 rfl).2
  go_wp2_with fail
  refine (heldRsnsX_c MG0.out (HR.out.right.left)).mono ?_
  rintro e w20 ⟨rfl, hb⟩
  replace HR := hid (HR.out.below hb)
  replace HB := hid (HB.out.trans (hb.mono HB.out.size))
  clear hb
  clear da10 da11 da12 da13 ta1 da00 da01 da02 ta0
  have da10 := (Rows.bc (HR.out.right.right.right.left) 0 rfl).1
  have da11 := (Rows.bc (HR.out.right.right.right.left) 1 rfl).1
  have da12 := (Rows.bc (HR.out.right.right.right.left) 2 rfl).1
  have da13 := (Rows.bc (HR.out.right.right.right.left) 3 rfl).1
  have ta1 := (Rows.bc (HR.out.right.right.right.left) 0 rfl).2
  have da00 := (Rows.bc (HR.out.right.right.right.right) 0 rfl).1
  have da01 := (Rows.bc (HR.out.right.right.right.right) 1 rfl).1
  have da02 := (Rows.bc (HR.out.right.right.right.right) 2 rfl).1
  have ta0 := (Rows.bc (HR.out.right.right.right.right) 0 rfl).2
  go_wp2_with fail
  go_ret
  exact ⟨rfl, HB.out⟩
end Go.Proofs.YteekkccgdkmjoaaGreat
