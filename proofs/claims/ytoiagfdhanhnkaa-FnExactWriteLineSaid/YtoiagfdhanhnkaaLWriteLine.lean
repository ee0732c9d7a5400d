/-
  WALK: the law FnExactWriteLine. By gen_any.py.
-/
import Derived.Deep.Cut
import Derived.Test.YtoiagfdhanhnkaaF16
import Derived.Test.YtoiagfdhanhnkaaApp
import Derived.Test.YtoiagfdhanhnkaaKFil
namespace Go.Proofs.Ytoiagfdhanhnkaa
open Go.RowKit Nm
set_option linter.unusedSimpArgs false
set_option linter.unusedVariables false

set_option maxHeartbeats 16000000 in
set_option maxRecDepth 100000 in
theorem walk_FnExactWriteLine (A0 : Option Addr) (n0 c0 : Nat) (d0 : Fil) (a1 : ByteArray) (w : World) (t0 : FilRaw w w.heap.size A0 n0 c0 d0) (m1 : a1.size ≤ maxLen) :
    Calls Try.prog 4 #[.agg #[.int .i64 d0.mo, .int .i64 d0.ke, .slice A0 n0 c0], .string a1] w (BoolPost w true) := by
  have T0 := hid t0
  clear t0
  have HB := hid (Below.refl w.heap.size w)
  have hr : Rows (w.alloc (.cells #[.int .i64 d0.mo, .int .i64 d0.ke, .slice A0 n0 c0] 24)) w.heap.size [bxRow 24 3 (w.heap.size) [.int .i64 d0.mo, .int .i64 d0.ke, .slice A0 n0 c0]] := by have h := Rows.box w #[.int .i64 d0.mo, .int .i64 d0.ke, .slice A0 n0 c0] 24 3 rfl; simpa using h
  have hb : Below w.heap.size w (w.alloc (.cells #[.int .i64 d0.mo, .int .i64 d0.ke, .slice A0 n0 c0] 24)) := (Below.refl _ _).alloc (Nat.le_refl _) _
  have HR := hid hr
  replace HB := hid (HB.out.trans (hb.mono HB.out.size))
  clear hb hr
  have m1' := m1
  unfold maxLen at m1'
  by_cases q1 : (1048576 : Int) < (a1.size : Int)
  · go_enter Try.func4, Try.ntmps4
    go_wp2_with fail
    go_ret
    exact ⟨rfl, HB.out⟩
  have z1 : a1.size ≤ maxTxt := by unfold maxTxt; omega
  have da00 := (Rows.bc (HR.out) 0 rfl).1
  have da01 := (Rows.bc (HR.out) 1 rfl).1
  have da02 := (Rows.bc (HR.out) 2 rfl).1
  have ta0 := (Rows.bc (HR.out) 0 rfl).2
  go_enter Try.func4, Try.ntmps4
  go_wp2_with fail
  refine (szFilesY_c A0 n0 c0 d0 w.heap.size _ _ (T0.out.below HB.out (Nat.le_refl _)) HB.out.size (by omega) (by omega)).mono ?_
  rintro e w1 ⟨r0, rfl, hb, hr⟩
  replace HR := hid (HR.out.below hb)
  replace HB := hid (HB.out.trans (hb.mono HB.out.size))
  clear hb
  clear da00 da01 da02 ta0
  have da00 := (Rows.bc (HR.out) 0 rfl).1
  have da01 := (Rows.bc (HR.out) 1 rfl).1
  have da02 := (Rows.bc (HR.out) 2 rfl).1
  have ta0 := (Rows.bc (HR.out) 0 rfl).2
  rcases hr with hr | ⟨hr0, hr1, hfit⟩
  · go_wp2_with fail
    go_ret
    exact ⟨rfl, HB.out⟩
  have F0 := hid hfit
  clear hfit
  have cS : ∀ (W : World) (v0 : Value) (h0 : FilIn W W.heap.size v0 d0), Calls Try.prog 19 #[v0, .string a1] W (fun e w2 => ∃ (u0 : Value) (rs0 : List Row), e = .returned (.tuple #[u0, .bool ((writeX d0 a1.data.toList).isSome)]) ∧ FilR rs0 u0 (filOr (writeX d0 a1.data.toList)) ∧ Rows w2 W.heap.size (rs0) ∧ Below W.heap.size W w2) := fun W v0 h0 => specWriteLine_c a1 (by have := z1; unfold maxTxt at this; omega) h0 (Nat.le_refl _)
  have cI : ∀ (W : World) (v0 : Value) (h0 : FilIn W W.heap.size v0 d0), Calls Try.prog 20 #[v0, .string a1] W (fun e w2 => ∃ (u0 : Value) (rs0 : List Row), e = .returned (.tuple #[u0, .bool ((writeX d0 a1.data.toList).isSome)]) ∧ FilR rs0 u0 (filOr (writeX d0 a1.data.toList)) ∧ Rows w2 W.heap.size (rs0) ∧ Below W.heap.size W w2) := fun W v0 h0 => implWriteLine_c a1 (by have := z1; unfold maxTxt at this; omega) h0 (Nat.le_refl _)
  have DX0 : FilFit (filOr (writeX d0 a1.data.toList)) := writeX_fit
  generalize filOr (writeX d0 a1.data.toList) = X0 at cS cI DX0
  replace DX0 := hid DX0
  generalize (writeX d0 a1.data.toList).isSome = X1 at cS cI
  have hX1 : (X1 == X1) = true := by simp
  replace cS := hid cS
  replace cI := hid cI
  go_wp2_with fail
  refine (toFilesY_c A0 n0 c0 d0 w.heap.size _ (T0.out.below HB.out (Nat.le_refl _)) HB.out.size F0.out).mono ?_
  rintro e w2 ⟨v, rss0, rfl, hs, hr, hb⟩
  obtain ⟨fs00, fs01, fs02, rfl⟩ := hs.form hr
  have Ss0 := hid hs
  clear hs
  replace HR := hid (HR.out.newer hb hr HB.out.size)
  replace HB := hid (HB.out.trans (hb.mono HB.out.size))
  clear hb hr
  clear da00 da01 da02 ta0
  have da00 := (Rows.bc (HR.out.right) 0 rfl).1
  have da01 := (Rows.bc (HR.out.right) 1 rfl).1
  have da02 := (Rows.bc (HR.out.right) 2 rfl).1
  have ta0 := (Rows.bc (HR.out.right) 0 rfl).2
  go_wp2_with fail
  refine (cS.out _ _ (Ss0.out.at_ (HR.out.left) F0.out)).mono ?_
  rintro e w3 ⟨v0, rsW0, rfl, hs0, hr, hb⟩
  obtain ⟨fW00, fW01, fW02, rfl⟩ := hs0.form hr
  have SW0 := hid hs0
  clear hs0
  replace HR := hid (HR.out.newer hb hr HB.out.size)
  replace HB := hid (HB.out.trans (hb.mono HB.out.size))
  clear hb hr
  clear da00 da01 da02 ta0
  have da00 := (Rows.bc (HR.out.right.right) 0 rfl).1
  have da01 := (Rows.bc (HR.out.right.right) 1 rfl).1
  have da02 := (Rows.bc (HR.out.right.right) 2 rfl).1
  have ta0 := (Rows.bc (HR.out.right.right) 0 rfl).2
  have hb : Below w3.heap.size w3 (w3.alloc (.cells #[.int .i64 X0.mo, .int .i64 X0.ke, .slice fW00 fW01 fW02] 26)) := (Below.refl _ _).alloc (Nat.le_refl _) _
  have hr := Rows.box w3 #[.int .i64 X0.mo, .int .i64 X0.ke, .slice fW00 fW01 fW02] 26 3 rfl
  replace HR := hid (HR.out.newer hb hr HB.out.size)
  replace HB := hid (HB.out.trans (hb.mono HB.out.size))
  clear hb hr
  clear da00 da01 da02 ta0
  have dbW00 := (Rows.bc (HR.out.left) 0 rfl).1
  have dbW01 := (Rows.bc (HR.out.left) 1 rfl).1
  have dbW02 := (Rows.bc (HR.out.left) 2 rfl).1
  have tbW0 := (Rows.bc (HR.out.left) 0 rfl).2
  have da00 := (Rows.bc (HR.out.right.right.right) 0 rfl).1
  have da01 := (Rows.bc (HR.out.right.right.right) 1 rfl).1
  have da02 := (Rows.bc (HR.out.right.right.right) 2 rfl).1
  have ta0 := (Rows.bc (HR.out.right.right.right) 0 rfl).2
  replace HR := hid (HR.out.sub ((List.Sublist.refl _).append ((List.Sublist.refl _).append (List.sublist_append_right _ _))))
  clear Ss0
  go_wp2_with fail
  refine (toFilesY_c A0 n0 c0 d0 w.heap.size _ (T0.out.below HB.out (Nat.le_refl _)) HB.out.size F0.out).mono ?_
  rintro e w4 ⟨v, rsx0, rfl, hs, hr, hb⟩
  obtain ⟨fx00, fx01, fx02, rfl⟩ := hs.form hr
  have Sx0 := hid hs
  clear hs
  replace HR := hid (HR.out.newer hb hr HB.out.size)
  replace HB := hid (HB.out.trans (hb.mono HB.out.size))
  clear hb hr
  clear dbW00 dbW01 dbW02 tbW0 da00 da01 da02 ta0
  have dbW00 := (Rows.bc (HR.out.right.left) 0 rfl).1
  have dbW01 := (Rows.bc (HR.out.right.left) 1 rfl).1
  have dbW02 := (Rows.bc (HR.out.right.left) 2 rfl).1
  have tbW0 := (Rows.bc (HR.out.right.left) 0 rfl).2
  have da00 := (Rows.bc (HR.out.right.right.right) 0 rfl).1
  have da01 := (Rows.bc (HR.out.right.right.right) 1 rfl).1
  have da02 := (Rows.bc (HR.out.right.right.right) 2 rfl).1
  have ta0 := (Rows.bc (HR.out.right.right.right) 0 rfl).2
  have hb : Below w4.heap.size w4 (w4.alloc (.cells #[.int .i64 d0.mo, .int .i64 d0.ke, .slice fx00 fx01 fx02] 26)) := (Below.refl _ _).alloc (Nat.le_refl _) _
  have hr := Rows.box w4 #[.int .i64 d0.mo, .int .i64 d0.ke, .slice fx00 fx01 fx02] 26 3 rfl
  replace HR := hid (HR.out.newer hb hr HB.out.size)
  replace HB := hid (HB.out.trans (hb.mono HB.out.size))
  clear hb hr
  clear dbW00 dbW01 dbW02 tbW0 da00 da01 da02 ta0
  have dbx00 := (Rows.bc (HR.out.left) 0 rfl).1
  have dbx01 := (Rows.bc (HR.out.left) 1 rfl).1
  have dbx02 := (Rows.bc (HR.out.left) 2 rfl).1
  have tbx0 := (Rows.bc (HR.out.left) 0 rfl).2
  have dbW00 := (Rows.bc (HR.out.right.right.left) 0 rfl).1
  have dbW01 := (Rows.bc (HR.out.right.right.left) 1 rfl).1
  have dbW02 := (Rows.bc (HR.out.right.right.left) 2 rfl).1
  have tbW0 := (Rows.bc (HR.out.right.right.left) 0 rfl).2
  have da00 := (Rows.bc (HR.out.right.right.right.right) 0 rfl).1
  have da01 := (Rows.bc (HR.out.right.right.right.right) 1 rfl).1
  have da02 := (Rows.bc (HR.out.right.right.right.right) 2 rfl).1
  have ta0 := (Rows.bc (HR.out.right.right.right.right) 0 rfl).2
  go_wp2_with fail
  refine (cI.out _ _ (Sx0.out.at_ (HR.out.right.left) F0.out)).mono ?_
  rintro e w5 ⟨v0, rsG0, rfl, hs0, hr, hb⟩
  obtain ⟨fG00, fG01, fG02, rfl⟩ := hs0.form hr
  have SG0 := hid hs0
  clear hs0
  replace HR := hid (HR.out.newer hb hr HB.out.size)
  replace HB := hid (HB.out.trans (hb.mono HB.out.size))
  clear hb hr
  clear dbx00 dbx01 dbx02 tbx0 dbW00 dbW01 dbW02 tbW0 da00 da01 da02 ta0
  have dbx00 := (Rows.bc (HR.out.right.left) 0 rfl).1
  have dbx01 := (Rows.bc (HR.out.right.left) 1 rfl).1
  have dbx02 := (Rows.bc (HR.out.right.left) 2 rfl).1
  have tbx0 := (Rows.bc (HR.out.right.left) 0 rfl).2
  have dbW00 := (Rows.bc (HR.out.right.right.right.left) 0 rfl).1
  have dbW01 := (Rows.bc (HR.out.right.right.right.left) 1 rfl).1
  have dbW02 := (Rows.bc (HR.out.right.right.right.left) 2 rfl).1
  have tbW0 := (Rows.bc (HR.out.right.right.right.left) 0 rfl).2
  have da00 := (Rows.bc (HR.out.right.right.right.right.right) 0 rfl).1
  have da01 := (Rows.bc (HR.out.right.right.right.right.right) 1 rfl).1
  have da02 := (Rows.bc (HR.out.right.right.right.right.right) 2 rfl).1
  have ta0 := (Rows.bc (HR.out.right.right.right.right.right) 0 rfl).2
  have hb : Below w5.heap.size w5 (w5.alloc (.cells #[.int .i64 X0.mo, .int .i64 X0.ke, .slice fG00 fG01 fG02] 26)) := (Below.refl _ _).alloc (Nat.le_refl _) _
  have hr := Rows.box w5 #[.int .i64 X0.mo, .int .i64 X0.ke, .slice fG00 fG01 fG02] 26 3 rfl
  replace HR := hid (HR.out.newer hb hr HB.out.size)
  replace HB := hid (HB.out.trans (hb.mono HB.out.size))
  clear hb hr
  clear dbx00 dbx01 dbx02 tbx0 dbW00 dbW01 dbW02 tbW0 da00 da01 da02 ta0
  have dbG00 := (Rows.bc (HR.out.left) 0 rfl).1
  have dbG01 := (Rows.bc (HR.out.left) 1 rfl).1
  have dbG02 := (Rows.bc (HR.out.left) 2 rfl).1
  have tbG0 := (Rows.bc (HR.out.left) 0 rfl).2
  have dbx00 := (Rows.bc (HR.out.right.right.left) 0 rfl).1
  have dbx01 := (Rows.bc (HR.out.right.right.left) 1 rfl).1
  have dbx02 := (Rows.bc (HR.out.right.right.left) 2 rfl).1
  have tbx0 := (Rows.bc (HR.out.right.right.left) 0 rfl).2
  have dbW00 := (Rows.bc (HR.out.right.right.right.right.left) 0 rfl).1
  have dbW01 := (Rows.bc (HR.out.right.right.right.right.left) 1 rfl).1
  have dbW02 := (Rows.bc (HR.out.right.right.right.right.left) 2 rfl).1
  have tbW0 := (Rows.bc (HR.out.right.right.right.right.left) 0 rfl).2
  have da00 := (Rows.bc (HR.out.right.right.right.right.right.right) 0 rfl).1
  have da01 := (Rows.bc (HR.out.right.right.right.right.right.right) 1 rfl).1
  have da02 := (Rows.bc (HR.out.right.right.right.right.right.right) 2 rfl).1
  have ta0 := (Rows.bc (HR.out.right.right.right.right.right.right) 0 rfl).2
  go_wp2_with fail
  refine (eqFilesX_c SG0.out (HR.out.right.left) SW0.out (HR.out.right.right.right.right.right.left)).mono ?_
  rintro e w6 ⟨rfl, hb⟩
  replace HR := hid (HR.out.below hb)
  replace HB := hid (HB.out.trans (hb.mono HB.out.size))
  clear hb
  clear dbG00 dbG01 dbG02 tbG0 dbx00 dbx01 dbx02 tbx0 dbW00 dbW01 dbW02 tbW0 da00 da01 da02 ta0
  have dbG00 := (Rows.bc (HR.out.left) 0 rfl).1
  have dbG01 := (Rows.bc (HR.out.left) 1 rfl).1
  have dbG02 := (Rows.bc (HR.out.left) 2 rfl).1
  have tbG0 := (Rows.bc (HR.out.left) 0 rfl).2
  have dbx00 := (Rows.bc (HR.out.right.right.left) 0 rfl).1
  have dbx01 := (Rows.bc (HR.out.right.right.left) 1 rfl).1
  have dbx02 := (Rows.bc (HR.out.right.right.left) 2 rfl).1
  have tbx0 := (Rows.bc (HR.out.right.right.left) 0 rfl).2
  have dbW00 := (Rows.bc (HR.out.right.right.right.right.left) 0 rfl).1
  have dbW01 := (Rows.bc (HR.out.right.right.right.right.left) 1 rfl).1
  have dbW02 := (Rows.bc (HR.out.right.right.right.right.left) 2 rfl).1
  have tbW0 := (Rows.bc (HR.out.right.right.right.right.left) 0 rfl).2
  have da00 := (Rows.bc (HR.out.right.right.right.right.right.right) 0 rfl).1
  have da01 := (Rows.bc (HR.out.right.right.right.right.right.right) 1 rfl).1
  have da02 := (Rows.bc (HR.out.right.right.right.right.right.right) 2 rfl).1
  have ta0 := (Rows.bc (HR.out.right.right.right.right.right.right) 0 rfl).2
  go_wp2_with fail
  refine wp_region_held_drew (S := (fun w' : World => w'.cell? ⟨w4.heap.size, 0, none⟩ = some (.int .i64 d0.mo) ∧ w'.cell? ⟨w4.heap.size, 1, none⟩ = some (.int .i64 d0.ke) ∧ w'.cell? ⟨w4.heap.size, 2, none⟩ = some (.slice fx00 fx01 fx02) ∧ w'.cell? ⟨w.heap.size, 0, none⟩ = some (.int .i64 d0.mo) ∧ w'.cell? ⟨w.heap.size, 1, none⟩ = some (.int .i64 d0.ke) ∧ w'.cell? ⟨w.heap.size, 2, none⟩ = some (.slice A0 n0 c0))) (by kernel_rfl) ⟨dbx00, dbx01, dbx02, da00, da01, da02⟩ (fun hS => ?_)
  refine wpAnyH_take (i := 0) (oi := ?oi101) (v := ?v101) ?hi101 (by kernel_rfl) ?hf101 ?hr101 ?hQ101 (Or.inl ⟨?hw101, ?hy101⟩) (by assumption) ?rest101
  case hi101 => simp only [List.getElem?_toArray, List.getElem?_cons_succ, List.getElem?_cons_zero]; rfl
  case hf101 => kernel_rfl
  case hr101 => kernel_rfl
  case hw101 => rfl
  case hy101 => (intro w hSw; (try dsimp only at hSw); go_simp; all_goals (first | done | with_reducible rfl))
  case hQ101 => exact fun _ _ _ h => h
  simp only [Act.put, List.setIfInBounds_toArray, List.set_cons_zero, List.set_cons_succ]
  refine wpAnyH_take (i := 1) (oi := ?oi102) (v := ?v102) ?hi102 (by kernel_rfl) ?hf102 ?hr102 ?hQ102 (Or.inl ⟨?hw102, ?hy102⟩) (by assumption) ?rest102
  case hi102 => simp only [List.getElem?_toArray, List.getElem?_cons_succ, List.getElem?_cons_zero]; rfl
  case hf102 => kernel_rfl
  case hr102 => kernel_rfl
  case hw102 => rfl
  case hy102 => (intro w hSw; (try dsimp only at hSw); go_simp; all_goals (first | done | with_reducible rfl))
  case hQ102 => exact fun _ _ _ h => h
  simp only [Act.put, List.setIfInBounds_toArray, List.set_cons_zero, List.set_cons_succ]
  replace HR := hid (HR.out.below ((Below.refl w6.heap.size w6).drew))
  replace HB := hid HB.out.drew
  clear dbG00 dbG01 dbG02 tbG0 dbx00 dbx01 dbx02 tbx0 dbW00 dbW01 dbW02 tbW0 da00 da01 da02 ta0
  have dbG00 := (Rows.bc (HR.out.left) 0 rfl).1
  have dbG01 := (Rows.bc (HR.out.left) 1 rfl).1
  have dbG02 := (Rows.bc (HR.out.left) 2 rfl).1
  have tbG0 := (Rows.bc (HR.out.left) 0 rfl).2
  have dbx00 := (Rows.bc (HR.out.right.right.left) 0 rfl).1
  have dbx01 := (Rows.bc (HR.out.right.right.left) 1 rfl).1
  have dbx02 := (Rows.bc (HR.out.right.right.left) 2 rfl).1
  have tbx0 := (Rows.bc (HR.out.right.right.left) 0 rfl).2
  have dbW00 := (Rows.bc (HR.out.right.right.right.right.left) 0 rfl).1
  have dbW01 := (Rows.bc (HR.out.right.right.right.right.left) 1 rfl).1
  have dbW02 := (Rows.bc (HR.out.right.right.right.right.left) 2 rfl).1
  have tbW0 := (Rows.bc (HR.out.right.right.right.right.left) 0 rfl).2
  have da00 := (Rows.bc (HR.out.right.right.right.right.right.right) 0 rfl).1
  have da01 := (Rows.bc (HR.out.right.right.right.right.right.right) 1 rfl).1
  have da02 := (Rows.bc (HR.out.right.right.right.right.right.right) 2 rfl).1
  have ta0 := (Rows.bc (HR.out.right.right.right.right.right.right) 0 rfl).2
  refine wpAnyH_ready (rs := [2]) (by kernel_rfl) (by simp) ?_
  refine AllReadyH.cons (o := ?oi103) ?hi103 (fun K hK => ?step103) AllReadyH.nil
  case hi103 => simp only [List.getElem?_toArray, List.getElem?_cons_succ, List.getElem?_cons_zero]; rfl
  rw [if_pos (by rfl)]
  go_simp
  go_at_call 14
  refine (toFilesY_c A0 n0 c0 d0 w.heap.size _ (T0.out.below HB.out (Nat.le_refl _)) HB.out.size F0.out).mono ?_
  rintro e w7 ⟨v, rsy0, rfl, hs, hr, hb⟩
  obtain ⟨fy00, fy01, fy02, rfl⟩ := hs.form hr
  have Sy0 := hid hs
  clear hs
  replace HR := hid (HR.out.newer hb hr HB.out.size)
  replace HB := hid (HB.out.trans (hb.mono HB.out.size))
  clear hb hr
  clear dbG00 dbG01 dbG02 tbG0 dbx00 dbx01 dbx02 tbx0 dbW00 dbW01 dbW02 tbW0 da00 da01 da02 ta0
  have dbG00 := (Rows.bc (HR.out.right.left) 0 rfl).1
  have dbG01 := (Rows.bc (HR.out.right.left) 1 rfl).1
  have dbG02 := (Rows.bc (HR.out.right.left) 2 rfl).1
  have tbG0 := (Rows.bc (HR.out.right.left) 0 rfl).2
  have dbx00 := (Rows.bc (HR.out.right.right.right.left) 0 rfl).1
  have dbx01 := (Rows.bc (HR.out.right.right.right.left) 1 rfl).1
  have dbx02 := (Rows.bc (HR.out.right.right.right.left) 2 rfl).1
  have tbx0 := (Rows.bc (HR.out.right.right.right.left) 0 rfl).2
  have dbW00 := (Rows.bc (HR.out.right.right.right.right.right.left) 0 rfl).1
  have dbW01 := (Rows.bc (HR.out.right.right.right.right.right.left) 1 rfl).1
  have dbW02 := (Rows.bc (HR.out.right.right.right.right.right.left) 2 rfl).1
  have tbW0 := (Rows.bc (HR.out.right.right.right.right.right.left) 0 rfl).2
  have da00 := (Rows.bc (HR.out.right.right.right.right.right.right.right) 0 rfl).1
  have da01 := (Rows.bc (HR.out.right.right.right.right.right.right.right) 1 rfl).1
  have da02 := (Rows.bc (HR.out.right.right.right.right.right.right.right) 2 rfl).1
  have ta0 := (Rows.bc (HR.out.right.right.right.right.right.right.right) 0 rfl).2
  refine hK.out _ _ ⟨dbx00, dbx01, dbx02, da00, da01, da02⟩ (fun hS9 => ?_)
  refine wpAnyH_ready (rs := [3]) (by kernel_rfl) (by simp) ?_
  refine AllReadyH.cons (o := ?oi104) ?hi104 (fun K hK => ?step104) AllReadyH.nil
  case hi104 => simp only [List.getElem?_toArray, List.getElem?_cons_succ, List.getElem?_cons_zero]; rfl
  rw [if_pos (by rfl)]
  go_simp
  go_at_call 16
  refine (eqFilesX_c Sx0.out (HR.out.right.right.right.right.left) Sy0.out (HR.out.left)).mono ?_
  rintro e w8 ⟨rfl, hb⟩
  replace HR := hid (HR.out.below hb)
  replace HB := hid (HB.out.trans (hb.mono HB.out.size))
  clear hb
  clear dbG00 dbG01 dbG02 tbG0 dbx00 dbx01 dbx02 tbx0 dbW00 dbW01 dbW02 tbW0 da00 da01 da02 ta0
  have dbG00 := (Rows.bc (HR.out.right.left) 0 rfl).1
  have dbG01 := (Rows.bc (HR.out.right.left) 1 rfl).1
  have dbG02 := (Rows.bc (HR.out.right.left) 2 rfl).1
  have tbG0 := (Rows.bc (HR.out.right.left) 0 rfl).2
  have dbx00 := (Rows.bc (HR.out.right.right.right.left) 0 rfl).1
  have dbx01 := (Rows.bc (HR.out.right.right.right.left) 1 rfl).1
  have dbx02 := (Rows.bc (HR.out.right.right.right.left) 2 rfl).1
  have tbx0 := (Rows.bc (HR.out.right.right.right.left) 0 rfl).2
  have dbW00 := (Rows.bc (HR.out.right.right.right.right.right.left) 0 rfl).1
  have dbW01 := (Rows.bc (HR.out.right.right.right.right.right.left) 1 rfl).1
  have dbW02 := (Rows.bc (HR.out.right.right.right.right.right.left) 2 rfl).1
  have tbW0 := (Rows.bc (HR.out.right.right.right.right.right.left) 0 rfl).2
  have da00 := (Rows.bc (HR.out.right.right.right.right.right.right.right) 0 rfl).1
  have da01 := (Rows.bc (HR.out.right.right.right.right.right.right.right) 1 rfl).1
  have da02 := (Rows.bc (HR.out.right.right.right.right.right.right.right) 2 rfl).1
  have ta0 := (Rows.bc (HR.out.right.right.right.right.right.right.right) 0 rfl).2
  refine hK.out _ _ ⟨dbx00, dbx01, dbx02, da00, da01, da02⟩ (fun hS9 => ?_)
  refine wpAnyH_take (i := 4) (oi := ?oi105) (v := ?v105) ?hi105 (by kernel_rfl) ?hf105 ?hr105 ?hQ105 (Or.inl ⟨?hw105, ?hy105⟩) (by assumption) ?rest105
  case hi105 => simp only [List.getElem?_toArray, List.getElem?_cons_succ, List.getElem?_cons_zero]; rfl
  case hf105 => kernel_rfl
  case hr105 => kernel_rfl
  case hw105 => rfl
  case hy105 => (intro w hSw; (try dsimp only at hSw); go_simp; all_goals (first | done | with_reducible rfl))
  case hQ105 => exact fun _ _ _ h => h
  simp only [Act.put, List.setIfInBounds_toArray, List.set_cons_zero, List.set_cons_succ]
  refine wpAnyH_done (by kernel_rfl) ?_ _
  replace HR := hid (HR.out.sub (List.sublist_append_right _ _))
  clear Sy0
  clear dbG00 dbG01 dbG02 tbG0 dbx00 dbx01 dbx02 tbx0 dbW00 dbW01 dbW02 tbW0 da00 da01 da02 ta0
  have dbG00 := (Rows.bc (HR.out.left) 0 rfl).1
  have dbG01 := (Rows.bc (HR.out.left) 1 rfl).1
  have dbG02 := (Rows.bc (HR.out.left) 2 rfl).1
  have tbG0 := (Rows.bc (HR.out.left) 0 rfl).2
  have dbx00 := (Rows.bc (HR.out.right.right.left) 0 rfl).1
  have dbx01 := (Rows.bc (HR.out.right.right.left) 1 rfl).1
  have dbx02 := (Rows.bc (HR.out.right.right.left) 2 rfl).1
  have tbx0 := (Rows.bc (HR.out.right.right.left) 0 rfl).2
  have dbW00 := (Rows.bc (HR.out.right.right.right.right.left) 0 rfl).1
  have dbW01 := (Rows.bc (HR.out.right.right.right.right.left) 1 rfl).1
  have dbW02 := (Rows.bc (HR.out.right.right.right.right.left) 2 rfl).1
  have tbW0 := (Rows.bc (HR.out.right.right.right.right.left) 0 rfl).2
  have da00 := (Rows.bc (HR.out.right.right.right.right.right.right) 0 rfl).1
  have da01 := (Rows.bc (HR.out.right.right.right.right.right.right) 1 rfl).1
  have da02 := (Rows.bc (HR.out.right.right.right.right.right.right) 2 rfl).1
  have ta0 := (Rows.bc (HR.out.right.right.right.right.right.right) 0 rfl).2
  replace HR := hid (HR.out.perm (((((List.perm_append_comm_assoc _ _ _).append_left _).trans (List.perm_append_comm_assoc _ _ _)).append_left _).trans (List.perm_append_comm_assoc _ _ _)))
  go_wp2_with fail
  refine (markFilesX_c (k := 1) Sx0.out HR.out HB.out.size F0.out (by omega)).mono ?_
  rintro e w9 ⟨rx0, rsx0, rfl, hM, hr, hb, hlx0⟩
  replace HR := hid hr
  replace HB := hid (HB.out.trans hb)
  have Mx0 := hid hM
  clear hr hb hM Sx0
  clear dbG00 dbG01 dbG02 tbG0 dbx00 dbx01 dbx02 tbx0 dbW00 dbW01 dbW02 tbW0 da00 da01 da02 ta0
  have dbG00 := (Rows.bc (HR.out.right.left) 0 rfl).1
  have dbG01 := (Rows.bc (HR.out.right.left) 1 rfl).1
  have dbG02 := (Rows.bc (HR.out.right.left) 2 rfl).1
  have tbG0 := (Rows.bc (HR.out.right.left) 0 rfl).2
  have dbx00 := (Rows.bc (HR.out.right.right.right.left) 0 rfl).1
  have dbx01 := (Rows.bc (HR.out.right.right.right.left) 1 rfl).1
  have dbx02 := (Rows.bc (HR.out.right.right.right.left) 2 rfl).1
  have tbx0 := (Rows.bc (HR.out.right.right.right.left) 0 rfl).2
  have dbW00 := (Rows.bc (HR.out.right.right.right.right.left) 0 rfl).1
  have dbW01 := (Rows.bc (HR.out.right.right.right.right.left) 1 rfl).1
  have dbW02 := (Rows.bc (HR.out.right.right.right.right.left) 2 rfl).1
  have tbW0 := (Rows.bc (HR.out.right.right.right.right.left) 0 rfl).2
  have da00 := (Rows.bc (HR.out.right.right.right.right.right.right) 0 rfl).1
  have da01 := (Rows.bc (HR.out.right.right.right.right.right.right) 1 rfl).1
  have da02 := (Rows.bc (HR.out.right.right.right.right.right.right) 2 rfl).1
  have ta0 := (Rows.bc (HR.out.right.right.right.right.right.right) 0 rfl).2
  replace HR := hid (HR.out.sub (List.sublist_append_right _ _))
  clear Mx0
  replace HR := hid (HR.out.sub ((List.Sublist.refl _).append ((List.Sublist.refl _).append (List.sublist_append_right _ _))))
  clear dbG00 dbG01 dbG02 tbG0 dbx00 dbx01 dbx02 tbx0 dbW00 dbW01 dbW02 tbW0 da00 da01 da02 ta0
  have dbG00 := (Rows.bc (HR.out.left) 0 rfl).1
  have dbG01 := (Rows.bc (HR.out.left) 1 rfl).1
  have dbG02 := (Rows.bc (HR.out.left) 2 rfl).1
  have tbG0 := (Rows.bc (HR.out.left) 0 rfl).2
  have dbW00 := (Rows.bc (HR.out.right.right.left) 0 rfl).1
  have dbW01 := (Rows.bc (HR.out.right.right.left) 1 rfl).1
  have dbW02 := (Rows.bc (HR.out.right.right.left) 2 rfl).1
  have tbW0 := (Rows.bc (HR.out.right.right.left) 0 rfl).2
  have da00 := (Rows.bc (HR.out.right.right.right.right) 0 rfl).1
  have da01 := (Rows.bc (HR.out.right.right.right.right) 1 rfl).1
  have da02 := (Rows.bc (HR.out.right.right.right.right) 2 rfl).1
  have ta0 := (Rows.bc (HR.out.right.right.right.right) 0 rfl).2
  go_wp2_with fail
  refine (eqFilesX_c SG0.out (HR.out.right.left) SW0.out (HR.out.right.right.right.left)).mono ?_
  rintro e w10 ⟨rfl, hb⟩
  replace HR := hid (HR.out.below hb)
  replace HB := hid (HB.out.trans (hb.mono HB.out.size))
  clear hb
  clear dbG00 dbG01 dbG02 tbG0 dbW00 dbW01 dbW02 tbW0 da00 da01 da02 ta0
  have dbG00 := (Rows.bc (HR.out.left) 0 rfl).1
  have dbG01 := (Rows.bc (HR.out.left) 1 rfl).1
  have dbG02 := (Rows.bc (HR.out.left) 2 rfl).1
  have tbG0 := (Rows.bc (HR.out.left) 0 rfl).2
  have dbW00 := (Rows.bc (HR.out.right.right.left) 0 rfl).1
  have dbW01 := (Rows.bc (HR.out.right.right.left) 1 rfl).1
  have dbW02 := (Rows.bc (HR.out.right.right.left) 2 rfl).1
  have tbW0 := (Rows.bc (HR.out.right.right.left) 0 rfl).2
  have da00 := (Rows.bc (HR.out.right.right.right.right) 0 rfl).1
  have da01 := (Rows.bc (HR.out.right.right.right.right) 1 rfl).1
  have da02 := (Rows.bc (HR.out.right.right.right.right) 2 rfl).1
  have ta0 := (Rows.bc (HR.out.right.right.right.right) 0 rfl).2
  replace HR := hid (HR.out.perm (List.perm_append_comm_assoc _ _ _))
  go_wp2_with fail
  refine (markFilesX_c (k := 1) SG0.out HR.out HB.out.size DX0.out (by omega)).mono ?_
  rintro e w11 ⟨rG0, rsG0, rfl, hM, hr, hb, hlG0⟩
  replace HR := hid hr
  replace HB := hid (HB.out.trans hb)
  have MG0 := hid hM
  clear hr hb hM SG0
  clear dbG00 dbG01 dbG02 tbG0 dbW00 dbW01 dbW02 tbW0 da00 da01 da02 ta0
  have dbG00 := (Rows.bc (HR.out.right.left) 0 rfl).1
  have dbG01 := (Rows.bc (HR.out.right.left) 1 rfl).1
  have dbG02 := (Rows.bc (HR.out.right.left) 2 rfl).1
  have tbG0 := (Rows.bc (HR.out.right.left) 0 rfl).2
  have dbW00 := (Rows.bc (HR.out.right.right.left) 0 rfl).1
  have dbW01 := (Rows.bc (HR.out.right.right.left) 1 rfl).1
  have dbW02 := (Rows.bc (HR.out.right.right.left) 2 rfl).1
  have tbW0 := (Rows.bc (HR.out.right.right.left) 0 rfl).2
  have da00 := (Rows.bc (HR.out.right.right.right.right) 0 rfl).1
  have da01 := (Rows.bc (HR.out.right.right.right.right) 1 rfl).1
  have da02 := (Rows.bc (HR.out.right.right.right.right) 2 rfl).1
  have ta0 := (Rows.bc (HR.out.right.right.right.right) 0 rfl).2
  go_wp2_with fail
  refine (heldFilesX_c MG0.out (HR.out.left)).mono ?_
  rintro e w12 ⟨rfl, hb⟩
  replace HR := hid (HR.out.below hb)
  replace HB := hid (HB.out.trans (hb.mono HB.out.size))
  clear hb
  clear dbG00 dbG01 dbG02 tbG0 dbW00 dbW01 dbW02 tbW0 da00 da01 da02 ta0
  have dbG00 := (Rows.bc (HR.out.right.left) 0 rfl).1
  have dbG01 := (Rows.bc (HR.out.right.left) 1 rfl).1
  have dbG02 := (Rows.bc (HR.out.right.left) 2 rfl).1
  have tbG0 := (Rows.bc (HR.out.right.left) 0 rfl).2
  have dbW00 := (Rows.bc (HR.out.right.right.left) 0 rfl).1
  have dbW01 := (Rows.bc (HR.out.right.right.left) 1 rfl).1
  have dbW02 := (Rows.bc (HR.out.right.right.left) 2 rfl).1
  have tbW0 := (Rows.bc (HR.out.right.right.left) 0 rfl).2
  have da00 := (Rows.bc (HR.out.right.right.right.right) 0 rfl).1
  have da01 := (Rows.bc (HR.out.right.right.right.right) 1 rfl).1
  have da02 := (Rows.bc (HR.out.right.right.right.right) 2 rfl).1
  have ta0 := (Rows.bc (HR.out.right.right.right.right) 0 rfl).2
  go_wp2_with fail
  refine (toFilesY_c A0 n0 c0 d0 w.heap.size _ (T0.out.below HB.out (Nat.le_refl _)) HB.out.size F0.out).mono ?_
  rintro e w13 ⟨v, rsz0, rfl, hs, hr, hb⟩
  obtain ⟨fz00, fz01, fz02, rfl⟩ := hs.form hr
  have Sz0 := hid hs
  clear hs
  replace HR := hid (HR.out.newer hb hr HB.out.size)
  replace HB := hid (HB.out.trans (hb.mono HB.out.size))
  clear hb hr
  clear dbG00 dbG01 dbG02 tbG0 dbW00 dbW01 dbW02 tbW0 da00 da01 da02 ta0
  have dbG00 := (Rows.bc (HR.out.right.right.left) 0 rfl).1
  have dbG01 := (Rows.bc (HR.out.right.right.left) 1 rfl).1
  have dbG02 := (Rows.bc (HR.out.right.right.left) 2 rfl).1
  have tbG0 := (Rows.bc (HR.out.right.right.left) 0 rfl).2
  have dbW00 := (Rows.bc (HR.out.right.right.right.left) 0 rfl).1
  have dbW01 := (Rows.bc (HR.out.right.right.right.left) 1 rfl).1
  have dbW02 := (Rows.bc (HR.out.right.right.right.left) 2 rfl).1
  have tbW0 := (Rows.bc (HR.out.right.right.right.left) 0 rfl).2
  have da00 := (Rows.bc (HR.out.right.right.right.right.right) 0 rfl).1
  have da01 := (Rows.bc (HR.out.right.right.right.right.right) 1 rfl).1
  have da02 := (Rows.bc (HR.out.right.right.right.right.right) 2 rfl).1
  have ta0 := (Rows.bc (HR.out.right.right.right.right.right) 0 rfl).2
  go_wp2_with fail
  refine (cI.out _ _ (Sz0.out.at_ (HR.out.left) F0.out)).mono ?_
  rintro e w14 ⟨v0, rsh0, rfl, hs0, hr, hb⟩
  obtain ⟨fh00, fh01, fh02, rfl⟩ := hs0.form hr
  have Sh0 := hid hs0
  clear hs0
  replace HR := hid (HR.out.newer hb hr HB.out.size)
  replace HB := hid (HB.out.trans (hb.mono HB.out.size))
  clear hb hr
  clear dbG00 dbG01 dbG02 tbG0 dbW00 dbW01 dbW02 tbW0 da00 da01 da02 ta0
  have dbG00 := (Rows.bc (HR.out.right.right.right.left) 0 rfl).1
  have dbG01 := (Rows.bc (HR.out.right.right.right.left) 1 rfl).1
  have dbG02 := (Rows.bc (HR.out.right.right.right.left) 2 rfl).1
  have tbG0 := (Rows.bc (HR.out.right.right.right.left) 0 rfl).2
  have dbW00 := (Rows.bc (HR.out.right.right.right.right.left) 0 rfl).1
  have dbW01 := (Rows.bc (HR.out.right.right.right.right.left) 1 rfl).1
  have dbW02 := (Rows.bc (HR.out.right.right.right.right.left) 2 rfl).1
  have tbW0 := (Rows.bc (HR.out.right.right.right.right.left) 0 rfl).2
  have da00 := (Rows.bc (HR.out.right.right.right.right.right.right) 0 rfl).1
  have da01 := (Rows.bc (HR.out.right.right.right.right.right.right) 1 rfl).1
  have da02 := (Rows.bc (HR.out.right.right.right.right.right.right) 2 rfl).1
  have ta0 := (Rows.bc (HR.out.right.right.right.right.right.right) 0 rfl).2
  have hb : Below w14.heap.size w14 (w14.alloc (.cells #[.int .i64 X0.mo, .int .i64 X0.ke, .slice fh00 fh01 fh02] 26)) := (Below.refl _ _).alloc (Nat.le_refl _) _
  have hr := Rows.box w14 #[.int .i64 X0.mo, .int .i64 X0.ke, .slice fh00 fh01 fh02] 26 3 rfl
  replace HR := hid (HR.out.newer hb hr HB.out.size)
  replace HB := hid (HB.out.trans (hb.mono HB.out.size))
  clear hb hr
  clear dbG00 dbG01 dbG02 tbG0 dbW00 dbW01 dbW02 tbW0 da00 da01 da02 ta0
  have dbh00 := (Rows.bc (HR.out.left) 0 rfl).1
  have dbh01 := (Rows.bc (HR.out.left) 1 rfl).1
  have dbh02 := (Rows.bc (HR.out.left) 2 rfl).1
  have tbh0 := (Rows.bc (HR.out.left) 0 rfl).2
  have dbG00 := (Rows.bc (HR.out.right.right.right.right.left) 0 rfl).1
  have dbG01 := (Rows.bc (HR.out.right.right.right.right.left) 1 rfl).1
  have dbG02 := (Rows.bc (HR.out.right.right.right.right.left) 2 rfl).1
  have tbG0 := (Rows.bc (HR.out.right.right.right.right.left) 0 rfl).2
  have dbW00 := (Rows.bc (HR.out.right.right.right.right.right.left) 0 rfl).1
  have dbW01 := (Rows.bc (HR.out.right.right.right.right.right.left) 1 rfl).1
  have dbW02 := (Rows.bc (HR.out.right.right.right.right.right.left) 2 rfl).1
  have tbW0 := (Rows.bc (HR.out.right.right.right.right.right.left) 0 rfl).2
  have da00 := (Rows.bc (HR.out.right.right.right.right.right.right.right) 0 rfl).1
  have da01 := (Rows.bc (HR.out.right.right.right.right.right.right.right) 1 rfl).1
  have da02 := (Rows.bc (HR.out.right.right.right.right.right.right.right) 2 rfl).1
  have ta0 := (Rows.bc (HR.out.right.right.right.right.right.right.right) 0 rfl).2
  replace HR := hid (HR.out.sub ((List.Sublist.refl _).append ((List.Sublist.refl _).append (List.sublist_append_right _ _))))
  clear Sz0
  go_wp2_with fail
  refine (eqFilesX_c Sh0.out (HR.out.right.left) SW0.out (HR.out.right.right.right.right.right.left)).mono ?_
  rintro e w15 ⟨rfl, hb⟩
  replace HR := hid (HR.out.below hb)
  replace HB := hid (HB.out.trans (hb.mono HB.out.size))
  clear hb
  clear dbh00 dbh01 dbh02 tbh0 dbG00 dbG01 dbG02 tbG0 dbW00 dbW01 dbW02 tbW0 da00 da01 da02 ta0
  have dbh00 := (Rows.bc (HR.out.left) 0 rfl).1
  have dbh01 := (Rows.bc (HR.out.left) 1 rfl).1
  have dbh02 := (Rows.bc (HR.out.left) 2 rfl).1
  have tbh0 := (Rows.bc (HR.out.left) 0 rfl).2
  have dbG00 := (Rows.bc (HR.out.right.right.right.left) 0 rfl).1
  have dbG01 := (Rows.bc (HR.out.right.right.right.left) 1 rfl).1
  have dbG02 := (Rows.bc (HR.out.right.right.right.left) 2 rfl).1
  have tbG0 := (Rows.bc (HR.out.right.right.right.left) 0 rfl).2
  have dbW00 := (Rows.bc (HR.out.right.right.right.right.left) 0 rfl).1
  have dbW01 := (Rows.bc (HR.out.right.right.right.right.left) 1 rfl).1
  have dbW02 := (Rows.bc (HR.out.right.right.right.right.left) 2 rfl).1
  have tbW0 := (Rows.bc (HR.out.right.right.right.right.left) 0 rfl).2
  have da00 := (Rows.bc (HR.out.right.right.right.right.right.right) 0 rfl).1
  have da01 := (Rows.bc (HR.out.right.right.right.right.right.right) 1 rfl).1
  have da02 := (Rows.bc (HR.out.right.right.right.right.right.right) 2 rfl).1
  have ta0 := (Rows.bc (HR.out.right.right.right.right.right.right) 0 rfl).2
  go_wp2_with fail
  refine (heldFilesX_c MG0.out (HR.out.right.right.left)).mono ?_
  rintro e w16 ⟨rfl, hb⟩
  replace HR := hid (HR.out.below hb)
  replace HB := hid (HB.out.trans (hb.mono HB.out.size))
  clear hb
  clear dbh00 dbh01 dbh02 tbh0 dbG00 dbG01 dbG02 tbG0 dbW00 dbW01 dbW02 tbW0 da00 da01 da02 ta0
  have dbh00 := (Rows.bc (HR.out.left) 0 rfl).1
  have dbh01 := (Rows.bc (HR.out.left) 1 rfl).1
  have dbh02 := (Rows.bc (HR.out.left) 2 rfl).1
  have tbh0 := (Rows.bc (HR.out.left) 0 rfl).2
  have dbG00 := (Rows.bc (HR.out.right.right.right.left) 0 rfl).1
  have dbG01 := (Rows.bc (HR.out.right.right.right.left) 1 rfl).1
  have dbG02 := (Rows.bc (HR.out.right.right.right.left) 2 rfl).1
  have tbG0 := (Rows.bc (HR.out.right.right.right.left) 0 rfl).2
  have dbW00 := (Rows.bc (HR.out.right.right.right.right.left) 0 rfl).1
  have dbW01 := (Rows.bc (HR.out.right.right.right.right.left) 1 rfl).1
  have dbW02 := (Rows.bc (HR.out.right.right.right.right.left) 2 rfl).1
  have tbW0 := (Rows.bc (HR.out.right.right.right.right.left) 0 rfl).2
  have da00 := (Rows.bc (HR.out.right.right.right.right.right.right) 0 rfl).1
  have da01 := (Rows.bc (HR.out.right.right.right.right.right.right) 1 rfl).1
  have da02 := (Rows.bc (HR.out.right.right.right.right.right.right) 2 rfl).1
  have ta0 := (Rows.bc (HR.out.right.right.right.right.right.right) 0 rfl).2
  go_wp2_with fail
  go_ret
  exact ⟨rfl, HB.out⟩
end Go.Proofs.Ytoiagfdhanhnkaa
