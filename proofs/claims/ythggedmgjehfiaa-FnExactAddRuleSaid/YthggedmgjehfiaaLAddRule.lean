/-
  WALK: the law FnExactAddRule. By gen_any.py.
-/
import Derived.Deep.Cut
import Derived.Test.YthggedmgjehfiaaAR4
import Derived.Test.YthggedmgjehfiaaApp
import Derived.Test.YthggedmgjehfiaaKRules
namespace Go.Proofs.Ythggedmgjehfiaa
open Go.RowKit Nm
set_option linter.unusedSimpArgs false
set_option linter.unusedVariables false

set_option maxHeartbeats 16000000 in
set_option maxRecDepth 100000 in
theorem walk_FnExactAddRule (A0 : Option Addr) (n0 c0 : Nat) (d0 : List Rul) (ac1 : Int) (wd1 : ByteArray) (md1 : ByteArray) (ln1 : Int) (a2 : Bool) (w : World) (t0 : RulesRaw w w.heap.size A0 n0 c0 d0) (mwd1 : wd1.size ≤ maxLen) (mmd1 : md1.size ≤ maxLen) :
    Calls Try.prog 3 #[.slice A0 n0 c0, .agg #[.int .i64 ac1, .string wd1, .string md1, .int .i64 ln1], .bool a2] w (BoolPost w true) := by
  have T0 := hid t0
  clear t0
  have HB := hid (Below.refl w.heap.size w)
  have hr : Rows (w.alloc (.cells #[.int .i64 ac1, .string wd1, .string md1, .int .i64 ln1] 24)) w.heap.size [bxRow 24 4 (w.heap.size) [.int .i64 ac1, .string wd1, .string md1, .int .i64 ln1]] := by have h := Rows.box w #[.int .i64 ac1, .string wd1, .string md1, .int .i64 ln1] 24 4 rfl; simpa using h
  have hb : Below w.heap.size w (w.alloc (.cells #[.int .i64 ac1, .string wd1, .string md1, .int .i64 ln1] 24)) := (Below.refl _ _).alloc (Nat.le_refl _) _
  have HR := hid hr
  replace HB := hid (HB.out.trans (hb.mono HB.out.size))
  clear hb hr
  have da10 := (Rows.bc (HR.out) 0 rfl).1
  have da11 := (Rows.bc (HR.out) 1 rfl).1
  have da12 := (Rows.bc (HR.out) 2 rfl).1
  have da13 := (Rows.bc (HR.out) 3 rfl).1
  have ta1 := (Rows.bc (HR.out) 0 rfl).2
  go_enter Try.func3, Try.ntmps3
  go_wp2_with fail
  refine (szRulesY_c A0 n0 c0 d0 w.heap.size _ _ (T0.out.below HB.out (Nat.le_refl _)) HB.out.size (by omega) (by omega)).mono ?_
  rintro e w1 ⟨r0, rfl, hb, hr⟩
  replace HR := hid (HR.out.below hb)
  replace HB := hid (HB.out.trans (hb.mono HB.out.size))
  clear hb
  clear da10 da11 da12 da13 ta1
  have da10 := (Rows.bc (HR.out) 0 rfl).1
  have da11 := (Rows.bc (HR.out) 1 rfl).1
  have da12 := (Rows.bc (HR.out) 2 rfl).1
  have da13 := (Rows.bc (HR.out) 3 rfl).1
  have ta1 := (Rows.bc (HR.out) 0 rfl).2
  rcases hr with hr | ⟨hr0, hr1, hfit⟩
  · go_wp2_with fail
    go_ret
    exact ⟨rfl, HB.out⟩
  have F0 := hid hfit
  clear hfit
  go_wp2_with fail
  refine (szRule_c ac1 wd1 md1 ln1 _ _ mwd1 mmd1 (by omega) (by omega)).mono ?_
  rintro e w2 ⟨r1, rfl, hb, hr⟩
  replace HR := hid (HR.out.below hb)
  replace HB := hid (HB.out.trans (hb.mono HB.out.size))
  clear hb
  clear da10 da11 da12 da13 ta1
  have da10 := (Rows.bc (HR.out) 0 rfl).1
  have da11 := (Rows.bc (HR.out) 1 rfl).1
  have da12 := (Rows.bc (HR.out) 2 rfl).1
  have da13 := (Rows.bc (HR.out) 3 rfl).1
  have ta1 := (Rows.bc (HR.out) 0 rfl).2
  rcases hr with hr | ⟨hr0, hr1, zwd1, zmd1⟩
  · go_wp2_with fail
    go_ret
    exact ⟨rfl, HB.out⟩
  have cS : ∀ (W : World) (v0 : Value) (h0 : RulesIn W W.heap.size v0 d0), Calls Try.prog 7 #[v0, .agg #[.int .i64 ac1, .string wd1, .string md1, .int .i64 ln1], .bool a2] W (fun e w2 => ∃ (u0 : Value) (rs0 : List Row), e = .returned (.tuple #[u0, .bool (addROk d0 ⟨ac1, wd1.data.toList, md1.data.toList, ln1⟩ a2)]) ∧ RulesR rs0 u0 (addRX d0 ⟨ac1, wd1.data.toList, md1.data.toList, ln1⟩ a2) ∧ Rows w2 W.heap.size (rs0) ∧ Below W.heap.size W w2) := fun W v0 h0 => (specAddRule_c v0 _ _ d0 ac1 ln1 wd1 md1 a2 W h0.1 (Nat.le_refl _) zwd1 zmd1).mono fun _ _ h => rules_post h
  have cI : ∀ (W : World) (v0 : Value) (h0 : RulesIn W W.heap.size v0 d0), Calls Try.prog 10 #[v0, .agg #[.int .i64 ac1, .string wd1, .string md1, .int .i64 ln1], .bool a2] W (fun e w2 => ∃ (u0 : Value) (rs0 : List Row), e = .returned (.tuple #[u0, .bool (addROk d0 ⟨ac1, wd1.data.toList, md1.data.toList, ln1⟩ a2)]) ∧ RulesR rs0 u0 (addRX d0 ⟨ac1, wd1.data.toList, md1.data.toList, ln1⟩ a2) ∧ Rows w2 W.heap.size (rs0) ∧ Below W.heap.size W w2) := fun W v0 h0 => (implAddRule_c v0 _ _ d0 ac1 ln1 wd1 md1 a2 W h0.1 (Nat.le_refl _) zwd1 zmd1).mono fun _ _ h => rules_post h
  have DX0 : RulesFit (addRX d0 ⟨ac1, wd1.data.toList, md1.data.toList, ln1⟩ a2) := addRX_fit (fun y hy => F0.out.2 y hy) (show rucellsFit ⟨ac1, wd1.data.toList, md1.data.toList, ln1⟩ from ⟨by rw [← Lib.size_eq]; exact zwd1, by rw [← Lib.size_eq]; exact zmd1⟩)
  generalize addRX d0 ⟨ac1, wd1.data.toList, md1.data.toList, ln1⟩ a2 = X0 at cS cI DX0
  replace DX0 := hid DX0
  generalize addROk d0 ⟨ac1, wd1.data.toList, md1.data.toList, ln1⟩ a2 = X1 at cS cI
  have hX1 : (X1 == X1) = true := by simp
  replace cS := hid cS
  replace cI := hid cI
  go_wp2_with fail
  refine wp_region_held_drew (S := (fun w' : World => w'.cell? ⟨w.heap.size, 0, none⟩ = some (.int .i64 ac1) ∧ w'.cell? ⟨w.heap.size, 1, none⟩ = some (.string wd1) ∧ w'.cell? ⟨w.heap.size, 2, none⟩ = some (.string md1) ∧ w'.cell? ⟨w.heap.size, 3, none⟩ = some (.int .i64 ln1))) (by kernel_rfl) ⟨da10, da11, da12, da13⟩ (fun hS => ?_)
  refine wpAnyH_take (i := 0) (oi := ?oi101) (v := ?v101) ?hi101 (by kernel_rfl) ?hf101 ?hr101 ?hQ101 (Or.inl ⟨?hw101, ?hy101⟩) (by assumption) ?rest101
  case hi101 => simp only [List.getElem?_toArray, List.getElem?_cons_succ, List.getElem?_cons_zero]; rfl
  case hf101 => kernel_rfl
  case hr101 => kernel_rfl
  case hw101 => rfl
  case hy101 => (intro w hSw; (try dsimp only at hSw); go_simp; all_goals (first | done | with_reducible rfl))
  case hQ101 => exact fun _ _ _ h => h
  simp only [Act.put, List.setIfInBounds_toArray, List.set_cons_zero, List.set_cons_succ]
  refine wpAnyH_take (i := 2) (oi := ?oi102) (v := ?v102) ?hi102 (by kernel_rfl) ?hf102 ?hr102 ?hQ102 (Or.inl ⟨?hw102, ?hy102⟩) (by assumption) ?rest102
  case hi102 => simp only [List.getElem?_toArray, List.getElem?_cons_succ, List.getElem?_cons_zero]; rfl
  case hf102 => kernel_rfl
  case hr102 => kernel_rfl
  case hw102 => rfl
  case hy102 => (intro w hSw; (try dsimp only at hSw); go_simp; all_goals (first | done | with_reducible rfl))
  case hQ102 => exact fun _ _ _ h => h
  simp only [Act.put, List.setIfInBounds_toArray, List.set_cons_zero, List.set_cons_succ]
  refine wpAnyH_take (i := 4) (oi := ?oi103) (v := ?v103) ?hi103 (by kernel_rfl) ?hf103 ?hr103 ?hQ103 (Or.inl ⟨?hw103, ?hy103⟩) (by assumption) ?rest103
  case hi103 => simp only [List.getElem?_toArray, List.getElem?_cons_succ, List.getElem?_cons_zero]; rfl
  case hf103 => kernel_rfl
  case hr103 => kernel_rfl
  case hw103 => rfl
  case hy103 => (intro w hSw; (try dsimp only at hSw); go_simp; all_goals (first | done | with_reducible rfl))
  case hQ103 => exact fun _ _ _ h => h
  simp only [Act.put, List.setIfInBounds_toArray, List.set_cons_zero, List.set_cons_succ]
  replace HR := hid (HR.out.below ((Below.refl w2.heap.size w2).drew))
  replace HB := hid HB.out.drew
  clear da10 da11 da12 da13 ta1
  have da10 := (Rows.bc (HR.out) 0 rfl).1
  have da11 := (Rows.bc (HR.out) 1 rfl).1
  have da12 := (Rows.bc (HR.out) 2 rfl).1
  have da13 := (Rows.bc (HR.out) 3 rfl).1
  have ta1 := (Rows.bc (HR.out) 0 rfl).2
  refine wpAnyH_ready (rs := [1]) (by kernel_rfl) (by simp) ?_
  refine AllReadyH.cons (o := ?oi104) ?hi104 (fun K hK => ?step104) AllReadyH.nil
  case hi104 => simp only [List.getElem?_toArray, List.getElem?_cons_succ, List.getElem?_cons_zero]; rfl
  rw [if_pos (by rfl)]
  go_simp
  go_at_call 8
  refine (toRulesY_c A0 n0 c0 d0 w.heap.size _ (T0.out.below HB.out (Nat.le_refl _)) HB.out.size F0.out).mono ?_
  rintro e w3 ⟨v, rss0, rfl, hs, hr, hb⟩
  obtain ⟨fs00, fs01, fs02, rfl⟩ := hs.form hr
  have Ss0 := hid hs
  clear hs
  replace HR := hid (HR.out.newer hb hr HB.out.size)
  replace HB := hid (HB.out.trans (hb.mono HB.out.size))
  clear hb hr
  clear da10 da11 da12 da13 ta1
  have da10 := (Rows.bc (HR.out.right) 0 rfl).1
  have da11 := (Rows.bc (HR.out.right) 1 rfl).1
  have da12 := (Rows.bc (HR.out.right) 2 rfl).1
  have da13 := (Rows.bc (HR.out.right) 3 rfl).1
  have ta1 := (Rows.bc (HR.out.right) 0 rfl).2
  refine hK.out _ _ ⟨da10, da11, da12, da13⟩ (fun hS9 => ?_)
  refine wpAnyH_ready (rs := [3]) (by kernel_rfl) (by simp) ?_
  refine AllReadyH.cons (o := ?oi105) ?hi105 (fun K hK => ?step105) AllReadyH.nil
  case hi105 => simp only [List.getElem?_toArray, List.getElem?_cons_succ, List.getElem?_cons_zero]; rfl
  rw [if_pos (by rfl)]
  go_simp
  go_at_call 9
  refine (toRule_c ac1 wd1 md1 ln1 _).mono ?_
  rintro e w4 ⟨rfl, hb⟩
  replace HR := hid (HR.out.below hb)
  replace HB := hid (HB.out.trans (hb.mono HB.out.size))
  clear hb
  clear da10 da11 da12 da13 ta1
  have da10 := (Rows.bc (HR.out.right) 0 rfl).1
  have da11 := (Rows.bc (HR.out.right) 1 rfl).1
  have da12 := (Rows.bc (HR.out.right) 2 rfl).1
  have da13 := (Rows.bc (HR.out.right) 3 rfl).1
  have ta1 := (Rows.bc (HR.out.right) 0 rfl).2
  refine hK.out _ _ ⟨da10, da11, da12, da13⟩ (fun hS9 => ?_)
  refine wpAnyH_ready (rs := [5]) (by kernel_rfl) (by simp) ?_
  refine AllReadyH.cons (o := ?oi106) ?hi106 (fun K hK => ?step106) AllReadyH.nil
  case hi106 => simp only [List.getElem?_toArray, List.getElem?_cons_succ, List.getElem?_cons_zero]; rfl
  rw [if_pos (by rfl)]
  go_simp
  go_at_call 7
  refine (cS.out _ _ (Ss0.out.at_ (HR.out.left) F0.out)).mono ?_
  rintro e w5 ⟨v0, rsW0, rfl, hs0, hr, hb⟩
  obtain ⟨fW00, fW01, fW02, rfl⟩ := hs0.form hr
  have SW0 := hid hs0
  clear hs0
  replace HR := hid (HR.out.newer hb hr HB.out.size)
  replace HB := hid (HB.out.trans (hb.mono HB.out.size))
  clear hb hr
  clear da10 da11 da12 da13 ta1
  have da10 := (Rows.bc (HR.out.right.right) 0 rfl).1
  have da11 := (Rows.bc (HR.out.right.right) 1 rfl).1
  have da12 := (Rows.bc (HR.out.right.right) 2 rfl).1
  have da13 := (Rows.bc (HR.out.right.right) 3 rfl).1
  have ta1 := (Rows.bc (HR.out.right.right) 0 rfl).2
  refine hK.out _ _ ⟨da10, da11, da12, da13⟩ (fun hS9 => ?_)
  refine wpAnyH_take (i := 6) (oi := ?oi107) (v := ?v107) ?hi107 (by kernel_rfl) ?hf107 ?hr107 ?hQ107 (Or.inl ⟨?hw107, ?hy107⟩) (by assumption) ?rest107
  case hi107 => simp only [List.getElem?_toArray, List.getElem?_cons_succ, List.getElem?_cons_zero]; rfl
  case hf107 => kernel_rfl
  case hr107 => kernel_rfl
  case hw107 => rfl
  case hy107 => (intro w hSw; (try dsimp only at hSw); go_simp; all_goals (first | done | with_reducible rfl))
  case hQ107 => exact fun _ _ _ h => h
  simp only [Act.put, List.setIfInBounds_toArray, List.set_cons_zero, List.set_cons_succ]
  refine wpAnyH_take (i := 7) (oi := ?oi108) (v := ?v108) ?hi108 (by kernel_rfl) ?hf108 ?hr108 ?hQ108 (Or.inl ⟨?hw108, ?hy108⟩) (by assumption) ?rest108
  case hi108 => simp only [List.getElem?_toArray, List.getElem?_cons_succ, List.getElem?_cons_zero]; rfl
  case hf108 => kernel_rfl
  case hr108 => kernel_rfl
  case hw108 => rfl
  case hy108 => (intro w hSw; (try dsimp only at hSw); go_simp; all_goals (first | done | with_reducible rfl))
  case hQ108 => exact fun _ _ _ h => h
  simp only [Act.put, List.setIfInBounds_toArray, List.set_cons_zero, List.set_cons_succ]
  refine wpAnyH_take (i := 8) (oi := ?oi109) (v := ?v109) ?hi109 (by kernel_rfl) ?hf109 ?hr109 ?hQ109 (Or.inl ⟨?hw109, ?hy109⟩) (by assumption) ?rest109
  case hi109 => simp only [List.getElem?_toArray, List.getElem?_cons_succ, List.getElem?_cons_zero]; rfl
  case hf109 => kernel_rfl
  case hr109 => kernel_rfl
  case hw109 => rfl
  case hy109 => (intro w hSw; (try dsimp only at hSw); go_simp; all_goals (first | done | with_reducible rfl))
  case hQ109 => exact fun _ _ _ h => h
  simp only [Act.put, List.setIfInBounds_toArray, List.set_cons_zero, List.set_cons_succ]
  refine wpAnyH_take (i := 9) (oi := ?oi110) (v := ?v110) ?hi110 (by kernel_rfl) ?hf110 ?hr110 ?hQ110 (Or.inl ⟨?hw110, ?hy110⟩) (by assumption) ?rest110
  case hi110 => simp only [List.getElem?_toArray, List.getElem?_cons_succ, List.getElem?_cons_zero]; rfl
  case hf110 => kernel_rfl
  case hr110 => kernel_rfl
  case hw110 => rfl
  case hy110 => (intro w hSw; (try dsimp only at hSw); go_simp; all_goals (first | done | with_reducible rfl))
  case hQ110 => exact fun _ _ _ h => h
  simp only [Act.put, List.setIfInBounds_toArray, List.set_cons_zero, List.set_cons_succ]
  refine wpAnyH_take (i := 10) (oi := ?oi111) (v := ?v111) ?hi111 (by kernel_rfl) ?hf111 ?hr111 ?hQ111 (Or.inl ⟨?hw111, ?hy111⟩) (by assumption) ?rest111
  case hi111 => simp only [List.getElem?_toArray, List.getElem?_cons_succ, List.getElem?_cons_zero]; rfl
  case hf111 => kernel_rfl
  case hr111 => kernel_rfl
  case hw111 => rfl
  case hy111 => (intro w hSw; (try dsimp only at hSw); go_simp; all_goals (first | done | with_reducible rfl))
  case hQ111 => exact fun _ _ _ h => h
  simp only [Act.put, List.setIfInBounds_toArray, List.set_cons_zero, List.set_cons_succ]
  refine wpAnyH_done (by kernel_rfl) ?_ _
  replace HR := hid (HR.out.sub ((List.Sublist.refl _).append (List.sublist_append_right _ _)))
  clear Ss0
  go_wp2_with fail
  refine (toRulesY_c A0 n0 c0 d0 w.heap.size _ (T0.out.below HB.out (Nat.le_refl _)) HB.out.size F0.out).mono ?_
  rintro e w6 ⟨v, rsx0, rfl, hs, hr, hb⟩
  obtain ⟨fx00, fx01, fx02, rfl⟩ := hs.form hr
  have Sx0 := hid hs
  clear hs
  replace HR := hid (HR.out.newer hb hr HB.out.size)
  replace HB := hid (HB.out.trans (hb.mono HB.out.size))
  clear hb hr
  clear da10 da11 da12 da13 ta1
  have da10 := (Rows.bc (HR.out.right.right) 0 rfl).1
  have da11 := (Rows.bc (HR.out.right.right) 1 rfl).1
  have da12 := (Rows.bc (HR.out.right.right) 2 rfl).1
  have da13 := (Rows.bc (HR.out.right.right) 3 rfl).1
  have ta1 := (Rows.bc (HR.out.right.right) 0 rfl).2
  go_wp2_with fail
  refine (toRule_c ac1 wd1 md1 ln1 _).mono ?_
  rintro e w7 ⟨rfl, hb⟩
  replace HR := hid (HR.out.below hb)
  replace HB := hid (HB.out.trans (hb.mono HB.out.size))
  clear hb
  clear da10 da11 da12 da13 ta1
  have da10 := (Rows.bc (HR.out.right.right) 0 rfl).1
  have da11 := (Rows.bc (HR.out.right.right) 1 rfl).1
  have da12 := (Rows.bc (HR.out.right.right) 2 rfl).1
  have da13 := (Rows.bc (HR.out.right.right) 3 rfl).1
  have ta1 := (Rows.bc (HR.out.right.right) 0 rfl).2
  go_wp2_with fail
  refine (cI.out _ _ (Sx0.out.at_ (HR.out.left) F0.out)).mono ?_
  rintro e w8 ⟨v0, rsG0, rfl, hs0, hr, hb⟩
  obtain ⟨fG00, fG01, fG02, rfl⟩ := hs0.form hr
  have SG0 := hid hs0
  clear hs0
  replace HR := hid (HR.out.newer hb hr HB.out.size)
  replace HB := hid (HB.out.trans (hb.mono HB.out.size))
  clear hb hr
  clear da10 da11 da12 da13 ta1
  have da10 := (Rows.bc (HR.out.right.right.right) 0 rfl).1
  have da11 := (Rows.bc (HR.out.right.right.right) 1 rfl).1
  have da12 := (Rows.bc (HR.out.right.right.right) 2 rfl).1
  have da13 := (Rows.bc (HR.out.right.right.right) 3 rfl).1
  have ta1 := (Rows.bc (HR.out.right.right.right) 0 rfl).2
  go_wp2_with fail
  refine (eqRulesX_c SG0.out (HR.out.left) SW0.out (HR.out.right.right.left)).mono ?_
  rintro e w9 ⟨rfl, hb⟩
  replace HR := hid (HR.out.below hb)
  replace HB := hid (HB.out.trans (hb.mono HB.out.size))
  clear hb
  clear da10 da11 da12 da13 ta1
  have da10 := (Rows.bc (HR.out.right.right.right) 0 rfl).1
  have da11 := (Rows.bc (HR.out.right.right.right) 1 rfl).1
  have da12 := (Rows.bc (HR.out.right.right.right) 2 rfl).1
  have da13 := (Rows.bc (HR.out.right.right.right) 3 rfl).1
  have ta1 := (Rows.bc (HR.out.right.right.right) 0 rfl).2
  go_wp2_with fail
  refine (toRulesY_c A0 n0 c0 d0 w.heap.size _ (T0.out.below HB.out (Nat.le_refl _)) HB.out.size F0.out).mono ?_
  rintro e w10 ⟨v, rsy0, rfl, hs, hr, hb⟩
  obtain ⟨fy00, fy01, fy02, rfl⟩ := hs.form hr
  have Sy0 := hid hs
  clear hs
  replace HR := hid (HR.out.newer hb hr HB.out.size)
  replace HB := hid (HB.out.trans (hb.mono HB.out.size))
  clear hb hr
  clear da10 da11 da12 da13 ta1
  have da10 := (Rows.bc (HR.out.right.right.right.right) 0 rfl).1
  have da11 := (Rows.bc (HR.out.right.right.right.right) 1 rfl).1
  have da12 := (Rows.bc (HR.out.right.right.right.right) 2 rfl).1
  have da13 := (Rows.bc (HR.out.right.right.right.right) 3 rfl).1
  have ta1 := (Rows.bc (HR.out.right.right.right.right) 0 rfl).2
  go_wp2_with fail
  refine (eqRulesX_c Sx0.out (HR.out.right.right.left) Sy0.out (HR.out.left)).mono ?_
  rintro e w11 ⟨rfl, hb⟩
  replace HR := hid (HR.out.below hb)
  replace HB := hid (HB.out.trans (hb.mono HB.out.size))
  clear hb
  clear da10 da11 da12 da13 ta1
  have da10 := (Rows.bc (HR.out.right.right.right.right) 0 rfl).1
  have da11 := (Rows.bc (HR.out.right.right.right.right) 1 rfl).1
  have da12 := (Rows.bc (HR.out.right.right.right.right) 2 rfl).1
  have da13 := (Rows.bc (HR.out.right.right.right.right) 3 rfl).1
  have ta1 := (Rows.bc (HR.out.right.right.right.right) 0 rfl).2
  replace HR := hid (HR.out.sub (List.sublist_append_right _ _))
  clear Sy0
  clear da10 da11 da12 da13 ta1
  have da10 := (Rows.bc (HR.out.right.right.right) 0 rfl).1
  have da11 := (Rows.bc (HR.out.right.right.right) 1 rfl).1
  have da12 := (Rows.bc (HR.out.right.right.right) 2 rfl).1
  have da13 := (Rows.bc (HR.out.right.right.right) 3 rfl).1
  have ta1 := (Rows.bc (HR.out.right.right.right) 0 rfl).2
  replace HR := hid (HR.out.perm (List.perm_append_comm_assoc _ _ _))
  go_wp2_with fail
  refine (markRulesX_c (k := 1) Sx0.out HR.out HB.out.size F0.out (by omega)).mono ?_
  rintro e w12 ⟨rx0, rsx0, rfl, hM, hr, hb, hlx0⟩
  replace HR := hid hr
  replace HB := hid (HB.out.trans hb)
  have Mx0 := hid hM
  clear hr hb hM Sx0
  clear da10 da11 da12 da13 ta1
  have da10 := (Rows.bc (HR.out.right.right.right) 0 rfl).1
  have da11 := (Rows.bc (HR.out.right.right.right) 1 rfl).1
  have da12 := (Rows.bc (HR.out.right.right.right) 2 rfl).1
  have da13 := (Rows.bc (HR.out.right.right.right) 3 rfl).1
  have ta1 := (Rows.bc (HR.out.right.right.right) 0 rfl).2
  replace HR := hid (HR.out.sub (List.sublist_append_right _ _))
  clear Mx0
  clear da10 da11 da12 da13 ta1
  have da10 := (Rows.bc (HR.out.right.right) 0 rfl).1
  have da11 := (Rows.bc (HR.out.right.right) 1 rfl).1
  have da12 := (Rows.bc (HR.out.right.right) 2 rfl).1
  have da13 := (Rows.bc (HR.out.right.right) 3 rfl).1
  have ta1 := (Rows.bc (HR.out.right.right) 0 rfl).2
  go_wp2_with fail
  refine (eqRulesX_c SG0.out (HR.out.left) SW0.out (HR.out.right.left)).mono ?_
  rintro e w13 ⟨rfl, hb⟩
  replace HR := hid (HR.out.below hb)
  replace HB := hid (HB.out.trans (hb.mono HB.out.size))
  clear hb
  clear da10 da11 da12 da13 ta1
  have da10 := (Rows.bc (HR.out.right.right) 0 rfl).1
  have da11 := (Rows.bc (HR.out.right.right) 1 rfl).1
  have da12 := (Rows.bc (HR.out.right.right) 2 rfl).1
  have da13 := (Rows.bc (HR.out.right.right) 3 rfl).1
  have ta1 := (Rows.bc (HR.out.right.right) 0 rfl).2
  go_wp2_with fail
  refine (markRulesX_c (k := 1) SG0.out HR.out HB.out.size DX0.out (by omega)).mono ?_
  rintro e w14 ⟨rG0, rsG0, rfl, hM, hr, hb, hlG0⟩
  replace HR := hid hr
  replace HB := hid (HB.out.trans hb)
  have MG0 := hid hM
  clear hr hb hM SG0
  clear da10 da11 da12 da13 ta1
  have da10 := (Rows.bc (HR.out.right.right) 0 rfl).1
  have da11 := (Rows.bc (HR.out.right.right) 1 rfl).1
  have da12 := (Rows.bc (HR.out.right.right) 2 rfl).1
  have da13 := (Rows.bc (HR.out.right.right) 3 rfl).1
  have ta1 := (Rows.bc (HR.out.right.right) 0 rfl).2
  go_wp2_with fail
  refine (heldRulesX_c MG0.out (HR.out.left)).mono ?_
  rintro e w15 ⟨rfl, hb⟩
  replace HR := hid (HR.out.below hb)
  replace HB := hid (HB.out.trans (hb.mono HB.out.size))
  clear hb
  clear da10 da11 da12 da13 ta1
  have da10 := (Rows.bc (HR.out.right.right) 0 rfl).1
  have da11 := (Rows.bc (HR.out.right.right) 1 rfl).1
  have da12 := (Rows.bc (HR.out.right.right) 2 rfl).1
  have da13 := (Rows.bc (HR.out.right.right) 3 rfl).1
  have ta1 := (Rows.bc (HR.out.right.right) 0 rfl).2
  go_wp2_with fail
  refine wp_region_held_drew (S := (fun w' : World => w'.cell? ⟨w.heap.size, 0, none⟩ = some (.int .i64 ac1) ∧ w'.cell? ⟨w.heap.size, 1, none⟩ = some (.string wd1) ∧ w'.cell? ⟨w.heap.size, 2, none⟩ = some (.string md1) ∧ w'.cell? ⟨w.heap.size, 3, none⟩ = some (.int .i64 ln1))) (by kernel_rfl) ⟨da10, da11, da12, da13⟩ (fun hS => ?_)
  refine wpAnyH_take (i := 0) (oi := ?oi112) (v := ?v112) ?hi112 (by kernel_rfl) ?hf112 ?hr112 ?hQ112 (Or.inl ⟨?hw112, ?hy112⟩) (by assumption) ?rest112
  case hi112 => simp only [List.getElem?_toArray, List.getElem?_cons_succ, List.getElem?_cons_zero]; rfl
  case hf112 => kernel_rfl
  case hr112 => kernel_rfl
  case hw112 => rfl
  case hy112 => (intro w hSw; (try dsimp only at hSw); go_simp; all_goals (first | done | with_reducible rfl))
  case hQ112 => exact fun _ _ _ h => h
  simp only [Act.put, List.setIfInBounds_toArray, List.set_cons_zero, List.set_cons_succ]
  refine wpAnyH_take (i := 2) (oi := ?oi113) (v := ?v113) ?hi113 (by kernel_rfl) ?hf113 ?hr113 ?hQ113 (Or.inl ⟨?hw113, ?hy113⟩) (by assumption) ?rest113
  case hi113 => simp only [List.getElem?_toArray, List.getElem?_cons_succ, List.getElem?_cons_zero]; rfl
  case hf113 => kernel_rfl
  case hr113 => kernel_rfl
  case hw113 => rfl
  case hy113 => (intro w hSw; (try dsimp only at hSw); go_simp; all_goals (first | done | with_reducible rfl))
  case hQ113 => exact fun _ _ _ h => h
  simp only [Act.put, List.setIfInBounds_toArray, List.set_cons_zero, List.set_cons_succ]
  refine wpAnyH_take (i := 4) (oi := ?oi114) (v := ?v114) ?hi114 (by kernel_rfl) ?hf114 ?hr114 ?hQ114 (Or.inl ⟨?hw114, ?hy114⟩) (by assumption) ?rest114
  case hi114 => simp only [List.getElem?_toArray, List.getElem?_cons_succ, List.getElem?_cons_zero]; rfl
  case hf114 => kernel_rfl
  case hr114 => kernel_rfl
  case hw114 => rfl
  case hy114 => (intro w hSw; (try dsimp only at hSw); go_simp; all_goals (first | done | with_reducible rfl))
  case hQ114 => exact fun _ _ _ h => h
  simp only [Act.put, List.setIfInBounds_toArray, List.set_cons_zero, List.set_cons_succ]
  replace HR := hid (HR.out.below ((Below.refl w15.heap.size w15).drew))
  replace HB := hid HB.out.drew
  clear da10 da11 da12 da13 ta1
  have da10 := (Rows.bc (HR.out.right.right) 0 rfl).1
  have da11 := (Rows.bc (HR.out.right.right) 1 rfl).1
  have da12 := (Rows.bc (HR.out.right.right) 2 rfl).1
  have da13 := (Rows.bc (HR.out.right.right) 3 rfl).1
  have ta1 := (Rows.bc (HR.out.right.right) 0 rfl).2
  refine wpAnyH_ready (rs := [1]) (by kernel_rfl) (by simp) ?_
  refine AllReadyH.cons (o := ?oi115) ?hi115 (fun K hK => ?step115) AllReadyH.nil
  case hi115 => simp only [List.getElem?_toArray, List.getElem?_cons_succ, List.getElem?_cons_zero]; rfl
  rw [if_pos (by rfl)]
  go_simp
  go_at_call 8
  refine (toRulesY_c A0 n0 c0 d0 w.heap.size _ (T0.out.below HB.out (Nat.le_refl _)) HB.out.size F0.out).mono ?_
  rintro e w16 ⟨v, rsz0, rfl, hs, hr, hb⟩
  obtain ⟨fz00, fz01, fz02, rfl⟩ := hs.form hr
  have Sz0 := hid hs
  clear hs
  replace HR := hid (HR.out.newer hb hr HB.out.size)
  replace HB := hid (HB.out.trans (hb.mono HB.out.size))
  clear hb hr
  clear da10 da11 da12 da13 ta1
  have da10 := (Rows.bc (HR.out.right.right.right) 0 rfl).1
  have da11 := (Rows.bc (HR.out.right.right.right) 1 rfl).1
  have da12 := (Rows.bc (HR.out.right.right.right) 2 rfl).1
  have da13 := (Rows.bc (HR.out.right.right.right) 3 rfl).1
  have ta1 := (Rows.bc (HR.out.right.right.right) 0 rfl).2
  refine hK.out _ _ ⟨da10, da11, da12, da13⟩ (fun hS9 => ?_)
  refine wpAnyH_ready (rs := [3]) (by kernel_rfl) (by simp) ?_
  refine AllReadyH.cons (o := ?oi116) ?hi116 (fun K hK => ?step116) AllReadyH.nil
  case hi116 => simp only [List.getElem?_toArray, List.getElem?_cons_succ, List.getElem?_cons_zero]; rfl
  rw [if_pos (by rfl)]
  go_simp
  go_at_call 9
  refine (toRule_c ac1 wd1 md1 ln1 _).mono ?_
  rintro e w17 ⟨rfl, hb⟩
  replace HR := hid (HR.out.below hb)
  replace HB := hid (HB.out.trans (hb.mono HB.out.size))
  clear hb
  clear da10 da11 da12 da13 ta1
  have da10 := (Rows.bc (HR.out.right.right.right) 0 rfl).1
  have da11 := (Rows.bc (HR.out.right.right.right) 1 rfl).1
  have da12 := (Rows.bc (HR.out.right.right.right) 2 rfl).1
  have da13 := (Rows.bc (HR.out.right.right.right) 3 rfl).1
  have ta1 := (Rows.bc (HR.out.right.right.right) 0 rfl).2
  refine hK.out _ _ ⟨da10, da11, da12, da13⟩ (fun hS9 => ?_)
  refine wpAnyH_ready (rs := [5]) (by kernel_rfl) (by simp) ?_
  refine AllReadyH.cons (o := ?oi117) ?hi117 (fun K hK => ?step117) AllReadyH.nil
  case hi117 => simp only [List.getElem?_toArray, List.getElem?_cons_succ, List.getElem?_cons_zero]; rfl
  rw [if_pos (by rfl)]
  go_simp
  go_at_call 10
  refine (cI.out _ _ (Sz0.out.at_ (HR.out.left) F0.out)).mono ?_
  rintro e w18 ⟨v0, rsh0, rfl, hs0, hr, hb⟩
  obtain ⟨fh00, fh01, fh02, rfl⟩ := hs0.form hr
  have Sh0 := hid hs0
  clear hs0
  replace HR := hid (HR.out.newer hb hr HB.out.size)
  replace HB := hid (HB.out.trans (hb.mono HB.out.size))
  clear hb hr
  clear da10 da11 da12 da13 ta1
  have da10 := (Rows.bc (HR.out.right.right.right.right) 0 rfl).1
  have da11 := (Rows.bc (HR.out.right.right.right.right) 1 rfl).1
  have da12 := (Rows.bc (HR.out.right.right.right.right) 2 rfl).1
  have da13 := (Rows.bc (HR.out.right.right.right.right) 3 rfl).1
  have ta1 := (Rows.bc (HR.out.right.right.right.right) 0 rfl).2
  refine hK.out _ _ ⟨da10, da11, da12, da13⟩ (fun hS9 => ?_)
  refine wpAnyH_take (i := 6) (oi := ?oi118) (v := ?v118) ?hi118 (by kernel_rfl) ?hf118 ?hr118 ?hQ118 (Or.inl ⟨?hw118, ?hy118⟩) (by assumption) ?rest118
  case hi118 => simp only [List.getElem?_toArray, List.getElem?_cons_succ, List.getElem?_cons_zero]; rfl
  case hf118 => kernel_rfl
  case hr118 => kernel_rfl
  case hw118 => rfl
  case hy118 => (intro w hSw; (try dsimp only at hSw); go_simp; all_goals (first | done | with_reducible rfl))
  case hQ118 => exact fun _ _ _ h => h
  simp only [Act.put, List.setIfInBounds_toArray, List.set_cons_zero, List.set_cons_succ]
  refine wpAnyH_take (i := 7) (oi := ?oi119) (v := ?v119) ?hi119 (by kernel_rfl) ?hf119 ?hr119 ?hQ119 (Or.inl ⟨?hw119, ?hy119⟩) (by assumption) ?rest119
  case hi119 => simp only [List.getElem?_toArray, List.getElem?_cons_succ, List.getElem?_cons_zero]; rfl
  case hf119 => kernel_rfl
  case hr119 => kernel_rfl
  case hw119 => rfl
  case hy119 => (intro w hSw; (try dsimp only at hSw); go_simp; all_goals (first | done | with_reducible rfl))
  case hQ119 => exact fun _ _ _ h => h
  simp only [Act.put, List.setIfInBounds_toArray, List.set_cons_zero, List.set_cons_succ]
  refine wpAnyH_take (i := 8) (oi := ?oi120) (v := ?v120) ?hi120 (by kernel_rfl) ?hf120 ?hr120 ?hQ120 (Or.inl ⟨?hw120, ?hy120⟩) (by assumption) ?rest120
  case hi120 => simp only [List.getElem?_toArray, List.getElem?_cons_succ, List.getElem?_cons_zero]; rfl
  case hf120 => kernel_rfl
  case hr120 => kernel_rfl
  case hw120 => rfl
  case hy120 => (intro w hSw; (try dsimp only at hSw); go_simp; all_goals (first | done | with_reducible rfl))
  case hQ120 => exact fun _ _ _ h => h
  simp only [Act.put, List.setIfInBounds_toArray, List.set_cons_zero, List.set_cons_succ]
  refine wpAnyH_take (i := 9) (oi := ?oi121) (v := ?v121) ?hi121 (by kernel_rfl) ?hf121 ?hr121 ?hQ121 (Or.inl ⟨?hw121, ?hy121⟩) (by assumption) ?rest121
  case hi121 => simp only [List.getElem?_toArray, List.getElem?_cons_succ, List.getElem?_cons_zero]; rfl
  case hf121 => kernel_rfl
  case hr121 => kernel_rfl
  case hw121 => rfl
  case hy121 => (intro w hSw; (try dsimp only at hSw); go_simp; all_goals (first | done | with_reducible rfl))
  case hQ121 => exact fun _ _ _ h => h
  simp only [Act.put, List.setIfInBounds_toArray, List.set_cons_zero, List.set_cons_succ]
  refine wpAnyH_take (i := 10) (oi := ?oi122) (v := ?v122) ?hi122 (by kernel_rfl) ?hf122 ?hr122 ?hQ122 (Or.inl ⟨?hw122, ?hy122⟩) (by assumption) ?rest122
  case hi122 => simp only [List.getElem?_toArray, List.getElem?_cons_succ, List.getElem?_cons_zero]; rfl
  case hf122 => kernel_rfl
  case hr122 => kernel_rfl
  case hw122 => rfl
  case hy122 => (intro w hSw; (try dsimp only at hSw); go_simp; all_goals (first | done | with_reducible rfl))
  case hQ122 => exact fun _ _ _ h => h
  simp only [Act.put, List.setIfInBounds_toArray, List.set_cons_zero, List.set_cons_succ]
  refine wpAnyH_done (by kernel_rfl) ?_ _
  replace HR := hid (HR.out.sub ((List.Sublist.refl _).append (List.sublist_append_right _ _)))
  clear Sz0
  go_wp2_with fail
  refine (eqRulesX_c Sh0.out (HR.out.left) SW0.out (HR.out.right.right.left)).mono ?_
  rintro e w19 ⟨rfl, hb⟩
  replace HR := hid (HR.out.below hb)
  replace HB := hid (HB.out.trans (hb.mono HB.out.size))
  clear hb
  clear da10 da11 da12 da13 ta1
  have da10 := (Rows.bc (HR.out.right.right.right) 0 rfl).1
  have da11 := (Rows.bc (HR.out.right.right.right) 1 rfl).1
  have da12 := (Rows.bc (HR.out.right.right.right) 2 rfl).1
  have da13 := (Rows.bc (HR.out.right.right.right) 3 rfl).1
  have ta1 := (Rows.bc (HR.out.right.right.right) 0 rfl).2
  go_wp2_with fail
  refine (heldRulesX_c MG0.out (HR.out.right.left)).mono ?_
  rintro e w20 ⟨rfl, hb⟩
  replace HR := hid (HR.out.below hb)
  replace HB := hid (HB.out.trans (hb.mono HB.out.size))
  clear hb
  clear da10 da11 da12 da13 ta1
  have da10 := (Rows.bc (HR.out.right.right.right) 0 rfl).1
  have da11 := (Rows.bc (HR.out.right.right.right) 1 rfl).1
  have da12 := (Rows.bc (HR.out.right.right.right) 2 rfl).1
  have da13 := (Rows.bc (HR.out.right.right.right) 3 rfl).1
  have ta1 := (Rows.bc (HR.out.right.right.right) 0 rfl).2
  go_wp2_with fail
  go_ret
  exact ⟨rfl, HB.out⟩
end Go.Proofs.Ythggedmgjehfiaa
