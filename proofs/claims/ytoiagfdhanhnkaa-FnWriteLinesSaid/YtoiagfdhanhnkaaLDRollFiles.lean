/-
  WALK: the law FnRollFiles. By gen_fil.py.
-/
import Derived.Test.YtoiagfdhanhnkaaLDAllLines
import Derived.Test.YtoiagfdhanhnkaaLDValidFiles
namespace Go.Proofs.Ytoiagfdhanhnkaa
open Go.RowKit Nm
set_option linter.unusedSimpArgs false
set_option linter.unusedVariables false
theorem roll_twice {d : Fil} (h : filOk d = true) : rollX (rollX d) = rollX d := by
  unfold rollX
  rw [h, if_pos rfl]
  by_cases h0 : (headL d.li).length = 0
  · rw [if_pos h0, h, if_pos rfl, if_pos h0]
  · rw [if_neg h0, fil_roll h (by omega), if_pos rfl, if_pos (by show (headL (([] :: d.li).take (d.ke.toNat + 1))).length = 0; rw [List.take_succ_cons]; rfl)]
theorem roll_head {d : Fil} (h : filOk d = true) : ∃ lt, (rollX d).li = [] :: lt := by
  unfold rollX
  rw [h, if_pos rfl]
  by_cases h0 : (headL d.li).length = 0
  · rw [if_pos h0]
    have hl := (fil_parts h).2.2.2.2.2.1
    cases hd : d.li with
    | nil => rw [hd] at hl; simp at hl
    | cons a t => rw [hd] at h0; exact ⟨t, by rw [List.eq_nil_of_length_eq_zero (show a.length = 0 from h0)]⟩
  · rw [if_neg h0]; exact ⟨d.li.take d.ke.toNat, List.take_succ_cons⟩
theorem allL_app (L M : StrssD) : allL (L ++ M) = allL M ++ allL L := by unfold allL; rw [List.reverse_append, List.flatten_append]
theorem ends_app (a b : TxtL) : endsL (a ++ b) b = true := by
  unfold endsL
  rw [List.length_append, decide_eq_true (by omega), Bool.true_and, show a.length + b.length - b.length = a.length by omega, List.drop_left]
  simp
theorem roll_ends {d : Fil} (h : filOk d = true) : endsL (allL d.li) (allL (rollX d).li) = true := by
  unfold rollX
  rw [h, if_pos rfl]
  by_cases h0 : (headL d.li).length = 0
  · rw [if_pos h0]; exact ends_app [] (allL d.li)
  · rw [if_neg h0]
    show endsL (allL d.li) (allL (([] :: d.li).take (d.ke.toNat + 1))) = true
    rw [List.take_succ_cons]
    have e1 : allL ([] :: d.li.take d.ke.toNat) = allL (d.li.take d.ke.toNat) := by simp [allL]
    have e2 : allL d.li = allL (d.li.drop d.ke.toNat) ++ allL (d.li.take d.ke.toNat) := by rw [← allL_app, List.take_append_drop]
    rw [e1]
    conv => lhs; arg 1; rw [e2]
    exact ends_app _ _
set_option maxHeartbeats 16000000 in
set_option maxRecDepth 100000 in
theorem walk_FnRollFiles (a0 : Option Addr) (len0 cap0 : Nat) (z0 : List Int) (w : World) (w0 : IsRow .u8 w a0 len0 cap0 z0) :
    Calls Try.prog 9 #[.slice a0 len0 cap0] w (BoolPost w true) := by
  have hb0 := w0.leF
  by_cases h1 : (1048576 : Int) < (len0 : Int)
  · go_enter Try.func9, Try.ntmps9
    go_wp2_with fail
    go_ret
    exact ⟨rfl, Below.refl _ _⟩
  have DR := hid (drawRollFiles_c a0 len0 cap0 z0 w w0)
  clear w0
  go_enter Try.func9, Try.ntmps9
  go_wp2_with fail
  refine DR.out.mono ?_
  rintro e w1 ⟨v, rs, d, rfl, hs, hsm, hr, hb⟩
  obtain ⟨A, n, c, rfl⟩ := hs.form hr
  obtain ⟨mo, ke, L⟩ := d
  have hs' : FilR rs (.agg #[.int .i64 mo, .int .i64 ke, .slice A n c]) ⟨mo, ke, L⟩ := hs
  have HS := hid hs'
  have HSM := hid hsm
  have HF := hid (sm_fit hsm)
  have HB := hid (hb.alloc hb.size (.cells #[.int .i64 mo, .int .i64 ke, .slice A n c] 26))
  have HR := hid (hr.bx hb.size #[.int .i64 mo, .int .i64 ke, .slice A n c] 26 3 rfl)
  have hwb : w.heap.size ≤ w1.heap.size := hb.size
  clear hs hs' hsm hr hb DR
  have f0 := (Rows.bc HR.out.left 0 rfl).1
  have f1 := (Rows.bc HR.out.left 1 rfl).1
  have f2 := (Rows.bc HR.out.left 2 rfl).1
  go_wp2_with fail
  refine (implRollFiles_c (FilR.at_ HS.out HR.out.right HF.out) (Nat.le_refl _)).mono ?_
  rintro e wn ⟨u, rsu, rfl, hs9, hr9, hb⟩
  obtain ⟨Au, nu, cu, rfl⟩ := hs9.form hr9
  have Su := hid hs9
  replace HR := hid (HR.out.newer hb hr9 HB.out.size)
  replace HB := hid (HB.out.trans (hb.mono HB.out.size))
  clear hb hs9 hr9 f0 f1 f2
  have hXm : (rollX ⟨mo, ke, L⟩).li.length ≤ 1000 := by have := (rollX_fit (d := ⟨mo, ke, L⟩)); cases hz : filOk ⟨mo, ke, L⟩ with | false => (unfold rollX; rw [hz]; simp) | true => (have := (fil_small (roll_ok hz)).1; omega)
  have hXE := hid (And.intro (rollX_fit (d := ⟨mo, ke, L⟩)) (And.intro (fun hz => roll_ok (d := ⟨mo, ke, L⟩) hz) (And.intro (fun hz => roll_twice (d := ⟨mo, ke, L⟩) hz) (And.intro (fun hz => roll_head (d := ⟨mo, ke, L⟩) hz) (And.intro (fun hz => roll_ends (d := ⟨mo, ke, L⟩) hz) hXm)))))
  clear hXm
  have CS := hid (fun (W : World) (v : Value) (h : FilIn W W.heap.size v ⟨mo, ke, L⟩) => specRollFiles_c h (Nat.le_refl _))
  generalize rollX ⟨mo, ke, L⟩ = X at *
  obtain ⟨xm, xk, xl⟩ := X
  have Su2 : Hid (FilR rsu (.agg #[.int .i64 xm, .int .i64 xk, .slice Au nu cu]) ⟨xm, xk, xl⟩) := Su
  clear Su
  have HRb : Hid (Rows (wn.alloc (.cells #[.int .i64 xm, .int .i64 xk, .slice Au nu cu] 26)) w.heap.size _) := hid (HR.out.bx HB.out.size #[.int .i64 xm, .int .i64 xk, .slice Au nu cu] 26 3 rfl)
  have HBb := hid (HB.out.alloc HB.out.size (.cells #[.int .i64 xm, .int .i64 xk, .slice Au nu cu] 26))
  have hbf : w1.heap.size < wn.heap.size := (Rows.bc HR.out.right.left 0 rfl).2
  clear HR HB
  go_wp2_with fail
  generalize wn.alloc (.cells #[.int .i64 xm, .int .i64 xk, .slice Au nu cu] 26) = w3 at *
  generalize hbx : wn.heap.size = bx at *
  have o0 := (Rows.bc HRb.out.left 0 rfl).1
  have o1 := (Rows.bc HRb.out.left 1 rfl).1
  have o2 := (Rows.bc HRb.out.left 2 rfl).1
  have f0 := (Rows.bc HRb.out.right.right.left 0 rfl).1
  have f1 := (Rows.bc HRb.out.right.right.left 1 rfl).1
  have f2 := (Rows.bc HRb.out.right.right.left 2 rfl).1
  have hbl1 : w1.heap.size < w3.heap.size := (Rows.bc HRb.out.right.right.left 0 rfl).2
  have hbl2 : bx < w3.heap.size := (Rows.bc HRb.out.left 0 rfl).2
  have CV := hid (fun (W : World) (hW : Below w3.heap.size w3 W) => implValidFiles_c (FilR.at_ HS.out (HRb.out.right.right.right.below hW) HF.out) (Nat.le_refl _))
  have CSp := hid (fun (W : World) (hW : Below w3.heap.size w3 W) => CS.out W _ (FilR.at_ HS.out (HRb.out.right.right.right.below hW) HF.out))
  have CEq := hid (fun (W : World) (hW : Below w3.heap.size w3 W) (v : Value) (h : FilIn W W.heap.size v ⟨xm, xk, xl⟩) => equalFiles_c (FilR.at_ Su2.out (HRb.out.right.left.below hW) hXE.out.1) h hXE.out.2.2.2.2.2)
  have CEq2 := hid (fun (W : World) (hW : Below w3.heap.size w3 W) (v : Value) (h : FilIn W W.heap.size v ⟨xm, xk, xl⟩) => equalFiles_c h (FilR.at_ Su2.out (HRb.out.right.left.below hW) hXE.out.1) hXE.out.2.2.2.2.2)
  have HO := hid (And.intro o0 (And.intro o1 (And.intro o2 (And.intro f0 (And.intro f1 f2)))))
  have far : ∀ (W : World), Below w3.heap.size w3 W → W.cell? ⟨bx, 0, none⟩ = some (.int .i64 xm) ∧ W.cell? ⟨bx, 1, none⟩ = some (.int .i64 xk) ∧ W.cell? ⟨bx, 2, none⟩ = some (.slice Au nu cu) ∧ W.cell? ⟨w1.heap.size, 0, none⟩ = some (.int .i64 mo) ∧ W.cell? ⟨w1.heap.size, 1, none⟩ = some (.int .i64 ke) ∧ W.cell? ⟨w1.heap.size, 2, none⟩ = some (.slice A n c) := fun W hW => ⟨(hW.cell (p := ⟨bx, 0, none⟩) hbl2).trans HO.out.1, (hW.cell (p := ⟨bx, 1, none⟩) hbl2).trans HO.out.2.1, (hW.cell (p := ⟨bx, 2, none⟩) hbl2).trans HO.out.2.2.1, (hW.cell (p := ⟨w1.heap.size, 0, none⟩) hbl1).trans HO.out.2.2.2.1, (hW.cell (p := ⟨w1.heap.size, 1, none⟩) hbl1).trans HO.out.2.2.2.2.1, (hW.cell (p := ⟨w1.heap.size, 2, none⟩) hbl1).trans HO.out.2.2.2.2.2⟩
  replace far := hid far
  clear o0 o1 o2 f0 f1 f2 hbl1 hbl2 HO CS
  have hq9 : Below w3.heap.size w3 w3 := Below.refl _ _
  refine wp_region_held_drew (S := (fun w' : World => w'.cell? ⟨bx, 0, none⟩ = some (.int .i64 xm) ∧ w'.cell? ⟨bx, 1, none⟩ = some (.int .i64 xk) ∧ w'.cell? ⟨bx, 2, none⟩ = some (.slice Au nu cu) ∧ w'.cell? ⟨w1.heap.size, 0, none⟩ = some (.int .i64 mo) ∧ w'.cell? ⟨w1.heap.size, 1, none⟩ = some (.int .i64 ke) ∧ w'.cell? ⟨w1.heap.size, 2, none⟩ = some (.slice A n c))) (by kernel_rfl) (far.out _ (hq9).drew) (fun hS => ?_)
  have hq0 : Below w3.heap.size w3 w3.drew := (hq9).drew
  refine wpAnyH_take (i := 0) (oi := ?oi101) (v := ?v101) ?hi101 (by kernel_rfl) ?hf101 ?hr101 ?hQ101 (Or.inl ⟨?hw101, ?hy101⟩) (by assumption) ?rest101
  case hi101 => simp only [List.getElem?_toArray, List.getElem?_cons_succ, List.getElem?_cons_zero]; rfl
  case hf101 => kernel_rfl
  case hr101 => kernel_rfl
  case hw101 => rfl
  case hy101 => (intro w hSw; (try dsimp only at hSw); go_simp; all_goals (first | done | with_reducible rfl))
  case hQ101 => exact fun _ _ _ h => h
  simp only [Act.put, List.setIfInBounds_toArray, List.set_cons_zero, List.set_cons_succ]
  refine wpAnyH_take (i := 1) (oi := ?oi102) (v := ?v102) ?hi102 (by kernel_rfl) ?hf102 ?hr102 ?hQ102 (Or.inl ⟨?hw102, ?hy102⟩) (by assumption) ?rest102
  case hi102 => simp only [List.getElem?_toArray, List.getElem?_cons_succ, List.getElem?_cons_zero]; rfl
  case hf102 => kernel_rfl
  case hr102 => kernel_rfl
  case hw102 => rfl
  case hy102 => (intro w hSw; (try dsimp only at hSw); go_simp; all_goals (first | done | with_reducible rfl))
  case hQ102 => exact fun _ _ _ h => h
  simp only [Act.put, List.setIfInBounds_toArray, List.set_cons_zero, List.set_cons_succ]
  refine wpAnyH_ready (rs := [2]) (by kernel_rfl) (by simp) ?_
  refine AllReadyH.cons (o := ?oi103) ?hi103 (fun K hK => ?step103) AllReadyH.nil
  case hi103 => simp only [List.getElem?_toArray, List.getElem?_cons_succ, List.getElem?_cons_zero]; rfl
  rw [if_pos (by rfl)]
  go_simp
  go_at_call 13
  refine (CSp.out _ hq0).mono ?_
  rintro e wy ⟨y, rsy, rfl, hsy, hry, hb⟩
  obtain ⟨Ay, ny, cy, rfl⟩ := hsy.form hry
  have hq1 : Below w3.heap.size w3 wy := hq0.trans (hb.mono hq0.size)
  have hiy := FilR.at_ hsy hry hXE.out.1
  clear hb
  refine hK.out _ _ (far.out _ hq1) (fun hS9 => ?_)
  refine wpAnyH_ready (rs := [3]) (by kernel_rfl) (by simp) ?_
  refine AllReadyH.cons (o := ?oi104) ?hi104 (fun K hK => ?step104) AllReadyH.nil
  case hi104 => simp only [List.getElem?_toArray, List.getElem?_cons_succ, List.getElem?_cons_zero]; rfl
  rw [if_pos (by rfl)]
  go_simp
  go_at_call 40
  refine (CEq.out _ hq1 _ hiy).mono ?_
  rintro e wz ⟨rfl, hb⟩
  have hq2 : Below w3.heap.size w3 wz := hq1.trans (hb.mono hq1.size)
  clear hb
  refine hK.out _ _ (far.out _ hq2) (fun hS9 => ?_)
  refine wpAnyH_take (i := 4) (oi := ?oi105) (v := ?v105) ?hi105 (by kernel_rfl) ?hf105 ?hr105 ?hQ105 (Or.inl ⟨?hw105, ?hy105⟩) (by assumption) ?rest105
  case hi105 => simp only [List.getElem?_toArray, List.getElem?_cons_succ, List.getElem?_cons_zero]; rfl
  case hf105 => kernel_rfl
  case hr105 => kernel_rfl
  case hw105 => rfl
  case hy105 => (intro w hSw; (try dsimp only at hSw); go_simp; all_goals (first | done | with_reducible rfl))
  case hQ105 => exact fun _ _ _ h => h
  simp only [Act.put, List.setIfInBounds_toArray, List.set_cons_zero, List.set_cons_succ]
  refine wpAnyH_take (i := 5) (oi := ?oi106) (v := ?v106) ?hi106 (by kernel_rfl) ?hf106 ?hr106 ?hQ106 (Or.inl ⟨?hw106, ?hy106⟩) (by assumption) ?rest106
  case hi106 => simp only [List.getElem?_toArray, List.getElem?_cons_succ, List.getElem?_cons_zero]; rfl
  case hf106 => kernel_rfl
  case hr106 => kernel_rfl
  case hw106 => rfl
  case hy106 => (intro w hSw; (try dsimp only at hSw); go_simp; all_goals (first | done | with_reducible rfl))
  case hQ106 => exact fun _ _ _ h => h
  simp only [Act.put, List.setIfInBounds_toArray, List.set_cons_zero, List.set_cons_succ]
  refine wpAnyH_take (i := 6) (oi := ?oi107) (v := ?v107) ?hi107 (by kernel_rfl) ?hf107 ?hr107 ?hQ107 (Or.inl ⟨?hw107, ?hy107⟩) (by assumption) ?rest107
  case hi107 => simp only [List.getElem?_toArray, List.getElem?_cons_succ, List.getElem?_cons_zero]; rfl
  case hf107 => kernel_rfl
  case hr107 => kernel_rfl
  case hw107 => rfl
  case hy107 => (intro w hSw; (try dsimp only at hSw); go_simp; all_goals (first | done | with_reducible rfl))
  case hQ107 => exact fun _ _ _ h => h
  simp only [Act.put, List.setIfInBounds_toArray, List.set_cons_zero, List.set_cons_succ]
  refine wpAnyH_ready (rs := [7]) (by kernel_rfl) (by simp) ?_
  refine AllReadyH.cons (o := ?oi108) ?hi108 (fun K hK => ?step108) AllReadyH.nil
  case hi108 => simp only [List.getElem?_toArray, List.getElem?_cons_succ, List.getElem?_cons_zero]; rfl
  rw [if_pos (by rfl)]
  go_simp
  go_at_call 28
  refine (CV.out _ hq2).mono ?_
  rintro e w4 ⟨rfl, hb⟩
  have hq4 := hid (hq2.trans (hb.mono hq2.size))
  clear hb
  refine hK.out _ _ (far.out _ hq4.out) (fun hS9 => ?_)
  refine wpAnyH_take (i := 8) (oi := ?oi109) (v := ?v109) ?hi109 (by kernel_rfl) ?hf109 ?hr109 ?hQ109 (Or.inl ⟨?hw109, ?hy109⟩) (by assumption) ?rest109
  case hi109 => simp only [List.getElem?_toArray, List.getElem?_cons_succ, List.getElem?_cons_zero]; rfl
  case hf109 => kernel_rfl
  case hr109 => kernel_rfl
  case hw109 => rfl
  case hy109 => (intro w hSw; (try dsimp only at hSw); go_simp; all_goals (first | done | with_reducible rfl))
  case hQ109 => exact fun _ _ _ h => h
  simp only [Act.put, List.setIfInBounds_toArray, List.set_cons_zero, List.set_cons_succ]
  refine wpAnyH_take (i := 9) (oi := ?oi110) (v := ?v110) ?hi110 (by kernel_rfl) ?hf110 ?hr110 ?hQ110 (Or.inl ⟨?hw110, ?hy110⟩) (by assumption) ?rest110
  case hi110 => simp only [List.getElem?_toArray, List.getElem?_cons_succ, List.getElem?_cons_zero]; rfl
  case hf110 => kernel_rfl
  case hr110 => kernel_rfl
  case hw110 => rfl
  case hy110 => (intro w hSw; (try dsimp only at hSw); go_simp; all_goals (first | done | with_reducible rfl))
  case hQ110 => exact fun _ _ _ h => h
  simp only [Act.put, List.setIfInBounds_toArray, List.set_cons_zero, List.set_cons_succ]
  refine wpAnyH_done (by kernel_rfl) ?_ _
  clear hS hS9 hq0 hq1 hq2 hq9 hsy hry hiy
  have hFA := far.out _ hq4.out
  obtain ⟨o0, o1, o2, f0, f1, f2⟩ := hFA
  cases hz : filOk ⟨mo, ke, L⟩ with
  | false =>
    go_wp2_with fail
    refine wp_region_held_drew (S := (fun w' : World => w'.cell? ⟨bx, 0, none⟩ = some (.int .i64 xm) ∧ w'.cell? ⟨bx, 1, none⟩ = some (.int .i64 xk) ∧ w'.cell? ⟨bx, 2, none⟩ = some (.slice Au nu cu) ∧ w'.cell? ⟨w1.heap.size, 0, none⟩ = some (.int .i64 mo) ∧ w'.cell? ⟨w1.heap.size, 1, none⟩ = some (.int .i64 ke) ∧ w'.cell? ⟨w1.heap.size, 2, none⟩ = some (.slice A n c))) (by kernel_rfl) (far.out _ (hq4.out).drew) (fun hS => ?_)
    have hq0 : Below w3.heap.size w3 w4.drew := (hq4.out).drew
    refine wpAnyH_take (i := 0) (oi := ?oi111) (v := ?v111) ?hi111 (by kernel_rfl) ?hf111 ?hr111 ?hQ111 (Or.inl ⟨?hw111, ?hy111⟩) (by assumption) ?rest111
    case hi111 => simp only [List.getElem?_toArray, List.getElem?_cons_succ, List.getElem?_cons_zero]; rfl
    case hf111 => kernel_rfl
    case hr111 => kernel_rfl
    case hw111 => rfl
    case hy111 => (intro w hSw; (try dsimp only at hSw); go_simp; all_goals (first | done | with_reducible rfl))
    case hQ111 => exact fun _ _ _ h => h
    simp only [Act.put, List.setIfInBounds_toArray, List.set_cons_zero, List.set_cons_succ]
    refine wpAnyH_take (i := 1) (oi := ?oi112) (v := ?v112) ?hi112 (by kernel_rfl) ?hf112 ?hr112 ?hQ112 (Or.inl ⟨?hw112, ?hy112⟩) (by assumption) ?rest112
    case hi112 => simp only [List.getElem?_toArray, List.getElem?_cons_succ, List.getElem?_cons_zero]; rfl
    case hf112 => kernel_rfl
    case hr112 => kernel_rfl
    case hw112 => rfl
    case hy112 => (intro w hSw; (try dsimp only at hSw); go_simp; all_goals (first | done | with_reducible rfl))
    case hQ112 => exact fun _ _ _ h => h
    simp only [Act.put, List.setIfInBounds_toArray, List.set_cons_zero, List.set_cons_succ]
    refine wpAnyH_ready (rs := [2]) (by kernel_rfl) (by simp) ?_
    refine AllReadyH.cons (o := ?oi113) ?hi113 (fun K hK => ?step113) AllReadyH.nil
    case hi113 => simp only [List.getElem?_toArray, List.getElem?_cons_succ, List.getElem?_cons_zero]; rfl
    rw [if_pos (by rfl)]
    go_simp
    go_at_call 13
    refine (CSp.out _ hq0).mono ?_
    rintro e wy ⟨y, rsy, rfl, hsy, hry, hb⟩
    obtain ⟨Ay, ny, cy, rfl⟩ := hsy.form hry
    have hq1 : Below w3.heap.size w3 wy := hq0.trans (hb.mono hq0.size)
    have hiy := FilR.at_ hsy hry hXE.out.1
    clear hb
    refine hK.out _ _ (far.out _ hq1) (fun hS9 => ?_)
    refine wpAnyH_ready (rs := [3]) (by kernel_rfl) (by simp) ?_
    refine AllReadyH.cons (o := ?oi114) ?hi114 (fun K hK => ?step114) AllReadyH.nil
    case hi114 => simp only [List.getElem?_toArray, List.getElem?_cons_succ, List.getElem?_cons_zero]; rfl
    rw [if_pos (by rfl)]
    go_simp
    go_at_call 40
    refine (CEq.out _ hq1 _ hiy).mono ?_
    rintro e wz ⟨rfl, hb⟩
    have hq2 : Below w3.heap.size w3 wz := hq1.trans (hb.mono hq1.size)
    clear hb
    refine hK.out _ _ (far.out _ hq2) (fun hS9 => ?_)
    refine wpAnyH_take (i := 4) (oi := ?oi115) (v := ?v115) ?hi115 (by kernel_rfl) ?hf115 ?hr115 ?hQ115 (Or.inl ⟨?hw115, ?hy115⟩) (by assumption) ?rest115
    case hi115 => simp only [List.getElem?_toArray, List.getElem?_cons_succ, List.getElem?_cons_zero]; rfl
    case hf115 => kernel_rfl
    case hr115 => kernel_rfl
    case hw115 => rfl
    case hy115 => (intro w hSw; (try dsimp only at hSw); go_simp; all_goals (first | done | with_reducible rfl))
    case hQ115 => exact fun _ _ _ h => h
    simp only [Act.put, List.setIfInBounds_toArray, List.set_cons_zero, List.set_cons_succ]
    refine wpAnyH_done (by kernel_rfl) ?_ _
    have HBz := hid (HBb.out.trans (hq2.mono HBb.out.size))
    clear hS hS9 o0 o1 o2 f0 f1 f2
    go_wp2_with fail
    go_ret
    exact ⟨rfl, HBz.out⟩
  | true =>
    obtain ⟨lt, hli⟩ := hXE.out.2.2.2.1 hz
    have hli' : xl = [] :: lt := hli
    have hXv := hXE.out.2.1 hz
    have hrr := hXE.out.2.2.1 hz
    have hen : endsL (allL L) (allL xl) = true := hXE.out.2.2.2.2.1 hz
    have hAf : allX ⟨mo, ke, L⟩ = allL L := by unfold allX; rw [hz]; rfl
    have hAx : allX ⟨xm, xk, xl⟩ = allL xl := by unfold allX; rw [hXv]; rfl
    have CAf := hid (fun (W : World) (hW : Below w3.heap.size w3 W) => implAllLines_c (FilR.at_ HS.out (HRb.out.right.right.right.below hW) HF.out) (Nat.le_refl _))
    have CAx := hid (fun (W : World) (hW : Below w3.heap.size w3 W) => implAllLines_c (FilR.at_ Su2.out (HRb.out.right.left.below hW) hXE.out.1) (Nat.le_refl _))
    have CRx := hid (fun (W : World) (hW : Below w3.heap.size w3 W) => implRollFiles_c (FilR.at_ Su2.out (HRb.out.right.left.below hW) hXE.out.1) (Nat.le_refl _))
    have CVx := hid (fun (W : World) (hW : Below w3.heap.size w3 W) => implValidFiles_c (FilR.at_ Su2.out (HRb.out.right.left.below hW) hXE.out.1) (Nat.le_refl _))
    rw [hAf] at CAf
    rw [hAx] at CAx
    rw [hrr] at CRx
    rw [hXv] at CVx
    have hF1 : StrsFit (allL L) := by have h9 := allX_fit (d := ⟨mo, ke, L⟩); rwa [hAf] at h9
    have hF2 : StrsFit (allL xl) := by have h9 := allX_fit (d := ⟨xm, xk, xl⟩); rwa [hAx] at h9
    have hl1 : (allL L).length ≤ 1000 := by have := allL_len L 12 (fil_small hz).2; have h4 : L.length ≤ 4 := (fil_small hz).1; omega
    have hl2 : (allL xl).length ≤ 1000 := by have := allL_len xl 12 (fil_small hXv).2; have h4 : xl.length ≤ 4 := (fil_small hXv).1; omega
    obtain ⟨u0, hu0, hin2⟩ := FilR.at_ Su2.out (HRb.out.right.left.below hq4.out) hXE.out.1
    have hu2 : u0 = .slice Au nu cu := by simp at hu0; exact hu0.symm
    subst hu2
    have hln : xl.length = nu := NestIn.count hin2.1
    obtain ⟨b, ob, ux, lx, hA, hbB, hx, d0, hin⟩ := StrssIn.elem (k := 0) hin2 (by rw [← hln, hli']; simp)
    have hlx : lx = [] := by rw [hli'] at hx; exact (Option.some.inj hx).symm
    subst hlx
    subst hA
    obtain ⟨A2, k2, hux, hk2, hm2⟩ := hin.1.form
    have hux' : ux = .slice A2 0 k2 := hux
    subst hux'
    rw [Nat.add_zero] at d0
    have hn0 : 0 < nu := by rw [← hln, hli']; simp
    have hbw : b < w4.heap.size := hbB
    have HX9 := hid (And.intro hen (And.intro hF1 (And.intro hF2 (And.intro hl1 hl2))))
    clear hli hli' hXv hrr hen hAf hAx hF1 hF2 hl1 hl2 hu0 hin2 hln hx hin hux hz
    go_wp2_with fail
    refine wp_region_held_drew (S := (fun w' : World => (w'.cell? ⟨bx, 0, none⟩ = some (.int .i64 xm) ∧ w'.cell? ⟨bx, 1, none⟩ = some (.int .i64 xk) ∧ w'.cell? ⟨bx, 2, none⟩ = some (.slice (some ⟨b, ob, none⟩) nu cu) ∧ w'.cell? ⟨w1.heap.size, 0, none⟩ = some (.int .i64 mo) ∧ w'.cell? ⟨w1.heap.size, 1, none⟩ = some (.int .i64 ke) ∧ w'.cell? ⟨w1.heap.size, 2, none⟩ = some (.slice A n c)) ∧ w'.cell? ⟨b, ob, none⟩ = some (.slice A2 0 k2))) (by kernel_rfl) ⟨far.out _ hq4.out.drew, d0⟩ (fun hS => ?_)
    have hq0 : Below w4.heap.size w4 w4.drew := (Below.refl _ _).drew
    have fr : ∀ (W : World), Below w4.heap.size w4 W → Below w3.heap.size w3 W := fun W hW => hq4.out.trans (hW.mono hq4.out.size)
    refine wpAnyH_take (i := 0) (oi := ?oi116) (v := ?v116) ?hi116 (by kernel_rfl) ?hf116 ?hr116 ?hQ116 (Or.inl ⟨?hw116, ?hy116⟩) (by assumption) ?rest116
    case hi116 => simp only [List.getElem?_toArray, List.getElem?_cons_succ, List.getElem?_cons_zero]; rfl
    case hf116 => kernel_rfl
    case hr116 => kernel_rfl
    case hw116 => rfl
    case hy116 => (intro w hSw; (try dsimp only at hSw); go_simp; all_goals (first | done | with_reducible rfl))
    case hQ116 => exact fun _ _ _ h => h
    simp only [Act.put, List.setIfInBounds_toArray, List.set_cons_zero, List.set_cons_succ]
    refine wpAnyH_take (i := 1) (oi := ?oi117) (v := ?v117) ?hi117 (by kernel_rfl) ?hf117 ?hr117 ?hQ117 (Or.inl ⟨?hw117, ?hy117⟩) (by assumption) ?rest117
    case hi117 => simp only [List.getElem?_toArray, List.getElem?_cons_succ, List.getElem?_cons_zero]; rfl
    case hf117 => kernel_rfl
    case hr117 => kernel_rfl
    case hw117 => rfl
    case hy117 => (intro w hSw; (try dsimp only at hSw); go_simp; all_goals (first | done | with_reducible rfl))
    case hQ117 => exact fun _ _ _ h => h
    simp only [Act.put, List.setIfInBounds_toArray, List.set_cons_zero, List.set_cons_succ]
    refine wpAnyH_take (i := 2) (oi := ?oi118) (v := ?v118) ?hi118 (by kernel_rfl) ?hf118 ?hr118 ?hQ118 (Or.inl ⟨?hw118, ?hy118⟩) (by assumption) ?rest118
    case hi118 => simp only [List.getElem?_toArray, List.getElem?_cons_succ, List.getElem?_cons_zero]; rfl
    case hf118 => kernel_rfl
    case hr118 => kernel_rfl
    case hw118 => rfl
    case hy118 => (intro w hSw; (try dsimp only at hSw); go_simp; all_goals (first | done | with_reducible rfl))
    case hQ118 => exact fun _ _ _ h => h
    simp only [Act.put, List.setIfInBounds_toArray, List.set_cons_zero, List.set_cons_succ]
    refine wpAnyH_take (i := 3) (oi := ?oi119) (v := ?v119) ?hi119 (by kernel_rfl) ?hf119 ?hr119 ?hQ119 (Or.inl ⟨?hw119, ?hy119⟩) (by assumption) ?rest119
    case hi119 => simp only [List.getElem?_toArray, List.getElem?_cons_succ, List.getElem?_cons_zero]; rfl
    case hf119 => kernel_rfl
    case hr119 => kernel_rfl
    case hw119 => rfl
    case hy119 => (intro w hSw; (try dsimp only at hSw); go_simp; all_goals (first | done | with_reducible rfl))
    case hQ119 => exact fun _ _ _ h => h
    simp only [Act.put, List.setIfInBounds_toArray, List.set_cons_zero, List.set_cons_succ]
    refine wpAnyH_take (i := 4) (oi := ?oi120) (v := ?v120) ?hi120 (by kernel_rfl) ?hf120 ?hr120 ?hQ120 (Or.inl ⟨?hw120, ?hy120⟩) (by assumption) ?rest120
    case hi120 => simp only [List.getElem?_toArray, List.getElem?_cons_succ, List.getElem?_cons_zero]; rfl
    case hf120 => kernel_rfl
    case hr120 => kernel_rfl
    case hw120 => rfl
    case hy120 => (intro w hSw; (try dsimp only at hSw); go_simp; all_goals (first | done | with_reducible rfl))
    case hQ120 => exact fun _ _ _ h => h
    simp only [Act.put, List.setIfInBounds_toArray, List.set_cons_zero, List.set_cons_succ]
    refine wpAnyH_take (i := 5) (oi := ?oi121) (v := ?v121) ?hi121 (by kernel_rfl) ?hf121 ?hr121 ?hQ121 (Or.inl ⟨?hw121, ?hy121⟩) (by assumption) ?rest121
    case hi121 => simp only [List.getElem?_toArray, List.getElem?_cons_succ, List.getElem?_cons_zero]; rfl
    case hf121 => kernel_rfl
    case hr121 => kernel_rfl
    case hw121 => rfl
    case hy121 => (intro w hSw; (try dsimp only at hSw); go_simp; all_goals (first | done | with_reducible rfl))
    case hQ121 => exact fun _ _ _ h => h
    simp only [Act.put, List.setIfInBounds_toArray, List.set_cons_zero, List.set_cons_succ]
    refine wpAnyH_take (i := 6) (oi := ?oi122) (v := ?v122) ?hi122 (by kernel_rfl) ?hf122 ?hr122 ?hQ122 (Or.inl ⟨?hw122, ?hy122⟩) (by assumption) ?rest122
    case hi122 => simp only [List.getElem?_toArray, List.getElem?_cons_succ, List.getElem?_cons_zero]; rfl
    case hf122 => kernel_rfl
    case hr122 => kernel_rfl
    case hw122 => rfl
    case hy122 => (intro w hSw; (try dsimp only at hSw); go_simp; all_goals (first | done | with_reducible rfl))
    case hQ122 => exact fun _ _ _ h => h
    simp only [Act.put, List.setIfInBounds_toArray, List.set_cons_zero, List.set_cons_succ]
    refine wpAnyH_take (i := 7) (oi := ?oi123) (v := ?v123) ?hi123 (by kernel_rfl) ?hf123 ?hr123 ?hQ123 (Or.inl ⟨?hw123, ?hy123⟩) (by assumption) ?rest123
    case hi123 => simp only [List.getElem?_toArray, List.getElem?_cons_succ, List.getElem?_cons_zero]; rfl
    case hf123 => kernel_rfl
    case hr123 => kernel_rfl
    case hw123 => rfl
    case hy123 => (intro w hSw; (try dsimp only at hSw); go_simp; all_goals (first | done | with_reducible rfl))
    case hQ123 => exact fun _ _ _ h => h
    simp only [Act.put, List.setIfInBounds_toArray, List.set_cons_zero, List.set_cons_succ]
    refine wpAnyH_take (i := 9) (oi := ?oi124) (v := ?v124) ?hi124 (by kernel_rfl) ?hf124 ?hr124 ?hQ124 (Or.inl ⟨?hw124, ?hy124⟩) (by assumption) ?rest124
    case hi124 => simp only [List.getElem?_toArray, List.getElem?_cons_succ, List.getElem?_cons_zero]; rfl
    case hf124 => kernel_rfl
    case hr124 => kernel_rfl
    case hw124 => rfl
    case hy124 => (intro w hSw; (try dsimp only at hSw); go_simp; all_goals (first | done | with_reducible rfl))
    case hQ124 => exact fun _ _ _ h => h
    simp only [Act.put, List.setIfInBounds_toArray, List.set_cons_zero, List.set_cons_succ]
    refine wpAnyH_ready (rs := [8]) (by kernel_rfl) (by simp) ?_
    refine AllReadyH.cons (o := ?oi125) ?hi125 (fun K hK => ?step125) AllReadyH.nil
    case hi125 => simp only [List.getElem?_toArray, List.getElem?_cons_succ, List.getElem?_cons_zero]; rfl
    rw [if_pos (by rfl)]
    go_simp
    go_at_call 31
    refine (CAf.out _ (fr _ hq0)).mono ?_
    rintro e wa ⟨ya, rsa, rfl, hsa, hra, hb⟩
    obtain ⟨Aa, na, ca, rfl⟩ := hsa.form hra
    have hqa : Below w4.heap.size w4 wa := hq0.trans (hb.mono hq0.size)
    clear hb
    refine hK.out _ _ ⟨far.out _ (fr _ hqa), (hqa.cell (p := ⟨b, ob, none⟩) hbw).trans d0⟩ (fun hS9 => ?_)
    refine wpAnyH_ready (rs := [10]) (by kernel_rfl) (by simp) ?_
    refine AllReadyH.cons (o := ?oi126) ?hi126 (fun K hK => ?step126) AllReadyH.nil
    case hi126 => simp only [List.getElem?_toArray, List.getElem?_cons_succ, List.getElem?_cons_zero]; rfl
    rw [if_pos (by rfl)]
    go_simp
    go_at_call 31
    refine (CAx.out _ (fr _ hqa)).mono ?_
    rintro e wb ⟨yb, rsb, rfl, hsb, hrb, hb⟩
    obtain ⟨Ab, nb, cb, rfl⟩ := hsb.form hrb
    have hra2 := hra.below hb
    have hqb : Below w4.heap.size w4 wb := hqa.trans (hb.mono hqa.size)
    clear hb
    have CN := hid (endsWith_c (StrsR.at_ hsa hra2 HX9.out.2.1) (StrsR.at_ hsb hrb HX9.out.2.2.1) HX9.out.2.2.2.1 HX9.out.2.2.2.2)
    rw [HX9.out.1] at CN
    refine hK.out _ _ ⟨far.out _ (fr _ hqb), (hqb.cell (p := ⟨b, ob, none⟩) hbw).trans d0⟩ (fun hS9 => ?_)
    refine wpAnyH_ready (rs := [11]) (by kernel_rfl) (by simp) ?_
    refine AllReadyH.cons (o := ?oi127) ?hi127 (fun K hK => ?step127) AllReadyH.nil
    case hi127 => simp only [List.getElem?_toArray, List.getElem?_cons_succ, List.getElem?_cons_zero]; rfl
    rw [if_pos (by rfl)]
    go_simp
    go_at_call 34
    refine CN.out.mono ?_
    rintro e wc ⟨rfl, hb⟩
    have hqc : Below w4.heap.size w4 wc := hqb.trans (hb.mono hqb.size)
    clear hb
    refine hK.out _ _ ⟨far.out _ (fr _ hqc), (hqc.cell (p := ⟨b, ob, none⟩) hbw).trans d0⟩ (fun hS9 => ?_)
    refine wpAnyH_take (i := 12) (oi := ?oi128) (v := ?v128) ?hi128 (by kernel_rfl) ?hf128 ?hr128 ?hQ128 (Or.inl ⟨?hw128, ?hy128⟩) (by assumption) ?rest128
    case hi128 => simp only [List.getElem?_toArray, List.getElem?_cons_succ, List.getElem?_cons_zero]; rfl
    case hf128 => kernel_rfl
    case hr128 => kernel_rfl
    case hw128 => rfl
    case hy128 => (intro w hSw; (try dsimp only at hSw); go_simp; all_goals (first | done | with_reducible rfl))
    case hQ128 => exact fun _ _ _ h => h
    simp only [Act.put, List.setIfInBounds_toArray, List.set_cons_zero, List.set_cons_succ]
    refine wpAnyH_take (i := 13) (oi := ?oi129) (v := ?v129) ?hi129 (by kernel_rfl) ?hf129 ?hr129 ?hQ129 (Or.inl ⟨?hw129, ?hy129⟩) (by assumption) ?rest129
    case hi129 => simp only [List.getElem?_toArray, List.getElem?_cons_succ, List.getElem?_cons_zero]; rfl
    case hf129 => kernel_rfl
    case hr129 => kernel_rfl
    case hw129 => rfl
    case hy129 => (intro w hSw; (try dsimp only at hSw); go_simp; all_goals (first | done | with_reducible rfl))
    case hQ129 => exact fun _ _ _ h => h
    simp only [Act.put, List.setIfInBounds_toArray, List.set_cons_zero, List.set_cons_succ]
    refine wpAnyH_take (i := 14) (oi := ?oi130) (v := ?v130) ?hi130 (by kernel_rfl) ?hf130 ?hr130 ?hQ130 (Or.inl ⟨?hw130, ?hy130⟩) (by assumption) ?rest130
    case hi130 => simp only [List.getElem?_toArray, List.getElem?_cons_succ, List.getElem?_cons_zero]; rfl
    case hf130 => kernel_rfl
    case hr130 => kernel_rfl
    case hw130 => rfl
    case hy130 => (intro w hSw; (try dsimp only at hSw); go_simp; all_goals (first | done | with_reducible rfl))
    case hQ130 => exact fun _ _ _ h => h
    simp only [Act.put, List.setIfInBounds_toArray, List.set_cons_zero, List.set_cons_succ]
    refine wpAnyH_take (i := 16) (oi := ?oi131) (v := ?v131) ?hi131 (by kernel_rfl) ?hf131 ?hr131 ?hQ131 (Or.inl ⟨?hw131, ?hy131⟩) (by assumption) ?rest131
    case hi131 => simp only [List.getElem?_toArray, List.getElem?_cons_succ, List.getElem?_cons_zero]; rfl
    case hf131 => kernel_rfl
    case hr131 => kernel_rfl
    case hw131 => rfl
    case hy131 => (intro w hSw; (try dsimp only at hSw); go_simp; all_goals (first | done | with_reducible rfl))
    case hQ131 => exact fun _ _ _ h => h
    simp only [Act.put, List.setIfInBounds_toArray, List.set_cons_zero, List.set_cons_succ]
    refine wpAnyH_ready (rs := [15]) (by kernel_rfl) (by simp) ?_
    refine AllReadyH.cons (o := ?oi132) ?hi132 (fun K hK => ?step132) AllReadyH.nil
    case hi132 => simp only [List.getElem?_toArray, List.getElem?_cons_succ, List.getElem?_cons_zero]; rfl
    rw [if_pos (by rfl)]
    go_simp
    go_at_call 15
    refine (CRx.out _ (fr _ hqc)).mono ?_
    rintro e wd ⟨yd, rsd, rfl, hsd, hrd, hb⟩
    obtain ⟨Ad, nd, cd, rfl⟩ := hsd.form hrd
    have hqd : Below w4.heap.size w4 wd := hqc.trans (hb.mono hqc.size)
    clear hb
    have hid9 := FilR.at_ hsd hrd hXE.out.1
    refine hK.out _ _ ⟨far.out _ (fr _ hqd), (hqd.cell (p := ⟨b, ob, none⟩) hbw).trans d0⟩ (fun hS9 => ?_)
    refine wpAnyH_ready (rs := [17]) (by kernel_rfl) (by simp) ?_
    refine AllReadyH.cons (o := ?oi133) ?hi133 (fun K hK => ?step133) AllReadyH.nil
    case hi133 => simp only [List.getElem?_toArray, List.getElem?_cons_succ, List.getElem?_cons_zero]; rfl
    rw [if_pos (by rfl)]
    go_simp
    go_at_call 40
    refine (CEq2.out _ (fr _ hqd) _ hid9).mono ?_
    rintro e we ⟨rfl, hb⟩
    have hqe : Below w4.heap.size w4 we := hqd.trans (hb.mono hqd.size)
    clear hb
    refine hK.out _ _ ⟨far.out _ (fr _ hqe), (hqe.cell (p := ⟨b, ob, none⟩) hbw).trans d0⟩ (fun hS9 => ?_)
    refine wpAnyH_take (i := 18) (oi := ?oi134) (v := ?v134) ?hi134 (by kernel_rfl) ?hf134 ?hr134 ?hQ134 (Or.inl ⟨?hw134, ?hy134⟩) (by assumption) ?rest134
    case hi134 => simp only [List.getElem?_toArray, List.getElem?_cons_succ, List.getElem?_cons_zero]; rfl
    case hf134 => kernel_rfl
    case hr134 => kernel_rfl
    case hw134 => rfl
    case hy134 => (intro w hSw; (try dsimp only at hSw); go_simp; all_goals (first | done | with_reducible rfl))
    case hQ134 => exact fun _ _ _ h => h
    simp only [Act.put, List.setIfInBounds_toArray, List.set_cons_zero, List.set_cons_succ]
    refine wpAnyH_take (i := 19) (oi := ?oi135) (v := ?v135) ?hi135 (by kernel_rfl) ?hf135 ?hr135 ?hQ135 (Or.inl ⟨?hw135, ?hy135⟩) (by assumption) ?rest135
    case hi135 => simp only [List.getElem?_toArray, List.getElem?_cons_succ, List.getElem?_cons_zero]; rfl
    case hf135 => kernel_rfl
    case hr135 => kernel_rfl
    case hw135 => rfl
    case hy135 => (intro w hSw; (try dsimp only at hSw); go_simp; all_goals (first | done | with_reducible rfl))
    case hQ135 => exact fun _ _ _ h => h
    simp only [Act.put, List.setIfInBounds_toArray, List.set_cons_zero, List.set_cons_succ]
    refine wpAnyH_take (i := 20) (oi := ?oi136) (v := ?v136) ?hi136 (by kernel_rfl) ?hf136 ?hr136 ?hQ136 (Or.inl ⟨?hw136, ?hy136⟩) (by assumption) ?rest136
    case hi136 => simp only [List.getElem?_toArray, List.getElem?_cons_succ, List.getElem?_cons_zero]; rfl
    case hf136 => kernel_rfl
    case hr136 => kernel_rfl
    case hw136 => rfl
    case hy136 => (intro w hSw; (try dsimp only at hSw); go_simp; all_goals (first | done | with_reducible rfl))
    case hQ136 => exact fun _ _ _ h => h
    simp only [Act.put, List.setIfInBounds_toArray, List.set_cons_zero, List.set_cons_succ]
    refine wpAnyH_ready (rs := [21]) (by kernel_rfl) (by simp) ?_
    refine AllReadyH.cons (o := ?oi137) ?hi137 (fun K hK => ?step137) AllReadyH.nil
    case hi137 => simp only [List.getElem?_toArray, List.getElem?_cons_succ, List.getElem?_cons_zero]; rfl
    rw [if_pos (by rfl)]
    go_simp
    go_at_call 28
    refine (CVx.out _ (fr _ hqe)).mono ?_
    rintro e wg ⟨rfl, hb⟩
    have hqg : Below w4.heap.size w4 wg := hqe.trans (hb.mono hqe.size)
    clear hb
    refine hK.out _ _ ⟨far.out _ (fr _ hqg), (hqg.cell (p := ⟨b, ob, none⟩) hbw).trans d0⟩ (fun hS9 => ?_)
    refine wpAnyH_take (i := 22) (oi := ?oi138) (v := ?v138) ?hi138 (by kernel_rfl) ?hf138 ?hr138 ?hQ138 (Or.inl ⟨?hw138, ?hy138⟩) (by assumption) ?rest138
    case hi138 => simp only [List.getElem?_toArray, List.getElem?_cons_succ, List.getElem?_cons_zero]; rfl
    case hf138 => kernel_rfl
    case hr138 => kernel_rfl
    case hw138 => rfl
    case hy138 => (intro w hSw; (try dsimp only at hSw); go_simp; all_goals (first | done | with_reducible rfl))
    case hQ138 => exact fun _ _ _ h => h
    simp only [Act.put, List.setIfInBounds_toArray, List.set_cons_zero, List.set_cons_succ]
    refine wpAnyH_take (i := 23) (oi := ?oi139) (v := ?v139) ?hi139 (by kernel_rfl) ?hf139 ?hr139 ?hQ139 (Or.inl ⟨?hw139, ?hy139⟩) (by assumption) ?rest139
    case hi139 => simp only [List.getElem?_toArray, List.getElem?_cons_succ, List.getElem?_cons_zero]; rfl
    case hf139 => kernel_rfl
    case hr139 => kernel_rfl
    case hw139 => rfl
    case hy139 => (intro w hSw; (try dsimp only at hSw); go_simp; all_goals (first | done | with_reducible rfl))
    case hQ139 => exact fun _ _ _ h => h
    simp only [Act.put, List.setIfInBounds_toArray, List.set_cons_zero, List.set_cons_succ]
    refine wpAnyH_done (by kernel_rfl) ?_ _
    have HBz := hid (HBb.out.trans ((fr _ hqg).mono HBb.out.size))
    clear hS hS9 d0 o0 o1 o2 f0 f1 f2
    go_wp2_with fail
    go_ret
    exact ⟨rfl, HBz.out⟩
end Go.Proofs.Ytoiagfdhanhnkaa
