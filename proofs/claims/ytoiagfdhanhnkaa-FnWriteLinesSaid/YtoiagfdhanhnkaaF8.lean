/-
  FILES: rolled files of the model.
-/
import Derived.Test.YtoiagfdhanhnkaaF6
import Derived.Test.YtoiagfdhanhnkaaHeld
namespace Go.Proofs.Ytoiagfdhanhnkaa
open Go.RowKit Nm
set_option linter.unusedSimpArgs false
set_option linter.unusedVariables false

theorem Rows.bx {w : World} {lo : Nat} {rs : List Row} (h : Rows w lo rs) (hl : lo ≤ w.heap.size) (cs : Array Value) (T : TypeId) (d : Nat) (hd : cs.size = d) : Rows (w.alloc (.cells cs T)) lo ([bxRow T d w.heap.size cs.toList] ++ rs) :=
  h.newer ((Below.refl _ _).alloc (Nat.le_refl _) _) (Rows.box w cs T d hd) hl
theorem Rows.lit {w : World} {lo : Nat} {rs : List Row} (h : Rows w lo rs) (hl : lo ≤ w.heap.size) (cs : Array Value) (T : TypeId) (n : Nat) (hn : cs.size = n) (hm : n ≤ 1000) : Rows (w.alloc (.cells cs T)) lo (⟨T, 1, n, .slice (some ⟨w.heap.size, 0, none⟩) n n, cs.toList⟩ :: rs) :=
  h.newer ((Below.refl _ _).alloc (Nat.le_refl _) _) (Rows.one (r := ⟨T, 1, n, .slice (some ⟨w.heap.size, 0, none⟩) n n, cs.toList⟩) (World.ownsRow_lit w cs n (Nat.le_refl _) (by unfold maxLen; omega) (by rw [hn, Nat.mul_one]))) hl
theorem perm3 (a b c d : List Row) : (a ++ (b ++ (c ++ d))).Perm (c ++ (a ++ (b ++ d))) :=
  (List.Perm.append_left a (List.perm_append_comm_assoc b c d)).trans (List.perm_append_comm_assoc a c (b ++ d))
theorem heads_one {es : List Cell2} {L : StrssD} (h : NE StrsR es L) {w : World} {lo : Nat} (hr : Rows w lo (inner es)) : ∀ u ∈ heads es, u.oneCell' = true := by
  intro u hu
  obtain ⟨e, he, rfl⟩ := List.mem_map.1 hu
  obtain ⟨i, hi⟩ := List.getElem?_of_mem he
  obtain ⟨l, hl⟩ : ∃ l, L[i]? = some l := ⟨_, List.getElem?_eq_getElem (by rw [← h.1]; exact (List.getElem?_eq_some_iff.1 hi).1)⟩
  obtain ⟨A, n, c, e1⟩ := (h.2 i e l hi hl).form (hr.sub (inner_mem he))
  rw [e1]; rfl

set_option maxHeartbeats 4000000 in
set_option maxRecDepth 100000 in
theorem specRolled_c {v : Value} {B : Nat} {d : Fil} {w : World} (h : FilIn w B v d) (hB : B ≤ w.heap.size) (hz : filOk d = true) :
    Calls Try.prog 47 #[v] w (FilPost w (rollF d)) := by
  obtain ⟨u, rfl, hu⟩ := h
  obtain ⟨mo, ke, L⟩ := d
  have hsm := fil_small hz
  have hpt := fil_parts hz
  obtain ⟨A, c, rfl, hnc, hcm⟩ := hu.1.form
  unfold maxLen at hcm
  replace hu : StrssIn w B (.slice A L.length c) L := hu
  have hl4 : L.length ≤ 4 := hsm.1
  have hk1 : 1 ≤ ke := hpt.2.2.2.1
  have hk3 : ke ≤ 3 := hpt.2.2.2.2.1
  have C := hid (fun (w1 : World) (hb : Below w.heap.size w w1) => specCopyLists_c (hu.below hb hB) (Nat.le_trans hB hb.size) (by omega))
  generalize hnn : L.length = n at *
  show Calls Try.prog 47 #[.agg #[.int .i64 mo, .int .i64 ke, .slice A n c]] w (FilPost w (rollF ⟨mo, ke, L⟩))
  have HX := hid (And.intro hnn hsm)
  clear hu hnn hsm hpt hz
  have R5 := ((((((Rows.nil w w.heap.size).bx (Nat.le_refl _) #[.int .i64 mo, .int .i64 ke, .slice A n c] 26 3 rfl).bx (by simp) #[.int .i64 0, .int .i64 0, .slice none 0 0] 26 3 rfl).lit (by simp; omega) #[] 9 0 rfl (by omega)).lit (by simp; omega) #[.slice (some ⟨w.heap.size + 1 + 1, 0, none⟩) 0 0] 35 1 rfl (by omega)).bx (by simp; omega) #[.int .i64 mo, .int .i64 ke, .slice (some ⟨w.heap.size + 1 + 1 + 1, 0, none⟩) 1 1] 26 3 rfl)
  simp only [World.size_alloc] at R5
  have HB5 := hid (((((((Below.refl w.heap.size w).alloc (Nat.le_refl _) (.cells #[.int .i64 mo, .int .i64 ke, .slice A n c] 26)).alloc (by simp) (.cells #[.int .i64 0, .int .i64 0, .slice none 0 0] 26)).alloc (by simp; omega) (.cells #[] 9)).alloc (by simp; omega) (.cells #[.slice (some ⟨w.heap.size + 1 + 1, 0, none⟩) 0 0] 35)).alloc (by simp; omega) (.cells #[.int .i64 mo, .int .i64 ke, .slice (some ⟨w.heap.size + 1 + 1 + 1, 0, none⟩) 1 1] 26)))
  have HR5 := hid (show Rows _ w.heap.size ([bxRow 26 3 (w.heap.size + 1 + 1 + 1 + 1) [.int .i64 mo, .int .i64 ke, .slice (some ⟨w.heap.size + 1 + 1 + 1, 0, none⟩) 1 1]] ++ (nestRows 35 (.slice (some ⟨w.heap.size + 1 + 1 + 1, 0, none⟩) 1 1) [(.slice (some ⟨w.heap.size + 1 + 1, 0, none⟩) 0 0, [⟨9, 1, 0, .slice (some ⟨w.heap.size + 1 + 1, 0, none⟩) 0 0, []⟩])] ++ ([bxRow 26 3 (w.heap.size + 1) [.int .i64 0, .int .i64 0, .slice none 0 0]] ++ [bxRow 26 3 w.heap.size [.int .i64 mo, .int .i64 ke, .slice A n c]]))) from R5)
  clear R5
  go_enter Try.func47, Try.ntmps47
  go_wp2_with fail
  generalize (((((w.alloc (.cells #[.int .i64 mo, .int .i64 ke, .slice A n c] 26)).alloc (.cells #[.int .i64 0, .int .i64 0, .slice none 0 0] 26)).alloc (.cells #[] 9)).alloc (.cells #[.slice (some ⟨w.heap.size + 1 + 1, 0, none⟩) 0 0] 35)).alloc (.cells #[.int .i64 mo, .int .i64 ke, .slice (some ⟨w.heap.size + 1 + 1 + 1, 0, none⟩) 1 1] 26)) = w1 at *
  generalize hbo : w.heap.size + 1 + 1 + 1 + 1 = bo at *
  generalize hbr : w.heap.size + 1 = br at *
  have hbo2 : w.heap.size ≤ bo := by omega
  have hbr2 : w.heap.size ≤ br := by omega
  have ne1 : bo ≠ w.heap.size := by omega
  have ne2 : bo ≠ br := by omega
  clear hbo hbr
  have d0 := (Rows.bc HR5.out.left 2 rfl).1
  have d1 := (Rows.bc HR5.out.right.right.right 2 rfl).1
  refine wp_region_let 7 (fun w' : World => w'.cell? ⟨w.heap.size, 2, none⟩ = some (.slice A n c)) (fun w' : World => w'.cell? ⟨bo, 2, none⟩ = some (.slice (some ⟨br + 1 + 1, 0, none⟩) 1 1)) (by kernel_rfl) d1 d0 (fun hS => ?_)
  refine wpAnyL_take (i := 0) (oi := ?oi101) (v := ?v101) ?hi101 (by kernel_rfl) ?hf101 ?hr101 (by decide) ?hQ101 (Or.inl ⟨?hw101, ?hy101⟩) (⟨hS.1, fun h => hS.2 (by first | rfl | exact h)⟩) ?rest101
  case hi101 => simp only [List.getElem?_toArray, List.getElem?_cons_succ, List.getElem?_cons_zero]; rfl
  case hf101 => kernel_rfl
  case hr101 => kernel_rfl
  case hw101 => rfl
  case hy101 => (intro w hSw; (try dsimp only at hSw); go_simp; all_goals (first | done | with_reducible rfl))
  case hQ101 => exact fun _ _ _ h => h
  simp only [Act.put, List.setIfInBounds_toArray, List.set_cons_zero, List.set_cons_succ]
  refine wpAnyL_take (i := 2) (oi := ?oi102) (v := ?v102) ?hi102 (by kernel_rfl) ?hf102 ?hr102 (by decide) ?hQ102 (Or.inl ⟨?hw102, ?hy102⟩) (⟨hS.1, fun h => hS.2 (by first | rfl | exact h)⟩) ?rest102
  case hi102 => simp only [List.getElem?_toArray, List.getElem?_cons_succ, List.getElem?_cons_zero]; rfl
  case hf102 => kernel_rfl
  case hr102 => kernel_rfl
  case hw102 => rfl
  case hy102 => (intro w hSw; (try dsimp only at hSw); go_simp; all_goals (first | done | with_reducible rfl))
  case hQ102 => exact fun _ _ _ h => h
  simp only [Act.put, List.setIfInBounds_toArray, List.set_cons_zero, List.set_cons_succ]
  refine wpAnyL_take (i := 3) (oi := ?oi103) (v := ?v103) ?hi103 (by kernel_rfl) ?hf103 ?hr103 (by decide) ?hQ103 (Or.inl ⟨?hw103, ?hy103⟩) (⟨hS.1, fun h => hS.2 (by first | rfl | exact h)⟩) ?rest103
  case hi103 => simp only [List.getElem?_toArray, List.getElem?_cons_succ, List.getElem?_cons_zero]; rfl
  case hf103 => kernel_rfl
  case hr103 => kernel_rfl
  case hw103 => rfl
  case hy103 => (intro w hSw; (try dsimp only at hSw); go_simp; all_goals (first | done | with_reducible rfl))
  case hQ103 => exact fun _ _ _ h => h
  simp only [Act.put, List.setIfInBounds_toArray, List.set_cons_zero, List.set_cons_succ]
  refine wpAnyL_take1 (i := 1) (oi := ?oi104) (om := ?om104) (v := ?v104) ?hi104 (by kernel_rfl) ?hf104 ?hr104 (by decide) ?hm104 ?hd104 (by rfl) ?hQ104 (Or.inl ⟨?hw104, ?hy104⟩) (⟨hS.1, fun h => hS.2 (by first | rfl | exact h)⟩) ?rest104
  case hi104 => simp only [List.getElem?_toArray, List.getElem?_cons_succ, List.getElem?_cons_zero]; rfl
  case hm104 => simp only [List.getElem?_toArray, List.getElem?_cons_succ, List.getElem?_cons_zero]; rfl
  case hd104 => kernel_rfl
  case hf104 => kernel_rfl
  case hr104 => kernel_rfl
  case hw104 => rfl
  case hy104 => (intro w hSw; (try dsimp only at hSw); go_simp; all_goals (first | done | with_reducible rfl))
  case hQ104 => exact fun _ _ _ h => h
  simp only [Act.put, List.setIfInBounds_toArray, List.set_cons_zero, List.set_cons_succ]
  refine wpAnyL_ready (rs := [4]) (by kernel_rfl) (by simp) ?_
  refine AllReadyL.cons (o := ?oi105) ?hi105 (fun K hK => ?step105) AllReadyL.nil
  case hi105 => simp only [List.getElem?_toArray, List.getElem?_cons_succ, List.getElem?_cons_zero]; rfl
  rw [if_pos (by rfl)]
  go_simp
  go_at_call 46
  refine (C.out _ HB5.out.drew).mono ?_
  rintro e w2 ⟨u2, rs2, rfl, hs2, hr2, hb2⟩
  obtain ⟨A2, c2, rfl, _, _⟩ := (NestR.own_ hs2 hr2).form
  obtain ⟨es2, rfl, hne2⟩ := hs2.ne
  have hl2 : es2.length = n := hne2.1.trans HX.out.1
  rw [HX.out.1] at hr2
  rw [show L.length = n from HX.out.1]
  have HR2 := hid ((HR5.out.dr.newer hb2 hr2 HB5.out.size).perm (perm3 _ _ _ _))
  have HB2 := hid (HB5.out.drew.trans (hb2.mono HB5.out.size))
  have HE := hid (NE.app (R := StrsR) (es := [(.slice (some ⟨br + 1, 0, none⟩) 0 0, [⟨9, 1, 0, .slice (some ⟨br + 1, 0, none⟩) 0 0, []⟩])]) (L := [[]]) (NE.nil.snoc (l := []) rfl) hne2)
  obtain ⟨A3, c3, w3, hrun, hb3, hR3, hs3⟩ := nest_appN HR2.out rfl hl2 HB2.out.size (by omega) (heads_one hne2 HR2.out.right.left.tail)
  obtain ⟨A3', c3', e3, hmc, hmm⟩ := (Sl.of_own (nest_top hR3.left)).form
  have hle : ([((.slice (some ⟨br + 1, 0, none⟩) 0 0 : Value), [(⟨9, 1, 0, .slice (some ⟨br + 1, 0, none⟩) 0 0, []⟩ : Row)])] ++ es2).length = 1 + n := by rw [List.length_append, hl2]; rfl
  rw [hle] at e3 hmc
  obtain rfl : c3 = c3' := by injection e3
  clear e3
  generalize hes : [((.slice (some ⟨br + 1, 0, none⟩) 0 0 : Value), [(⟨9, 1, 0, .slice (some ⟨br + 1, 0, none⟩) 0 0, []⟩ : Row)])] ++ es2 = es3 at *
  have HR3 := hid (hR3.perm (List.perm_append_comm_assoc _ _ _))
  have HB3 := hid (HB2.out.trans (hb3.mono (Nat.le_refl _)))
  have HRun := hid hrun
  have HLE := hid (And.intro hle hmc)
  have hm4 : 1 + n ≤ 5 := by omega
  unfold maxLen at hmm
  have d0' := (Rows.bc HR2.out.right.right.left 2 rfl).1
  have d1' := (Rows.bc HR2.out.right.right.right.right 2 rfl).1
  clear hs2 hr2 hb2 hne2 hl2 hrun hb3 hR3 hs3 hle hmc hes HR5 HB5 C
  refine hK.out _ _ ⟨d1', fun _ => d0'⟩ (fun hS => ?_)
  refine wpAnyL_ready (rs := [5]) (by kernel_rfl) (by simp) ?_
  refine AllReadyL.cons (o := ?oi106) ?hi106 (fun K hK => ?step106) AllReadyL.nil
  case hi106 => simp only [List.getElem?_toArray, List.getElem?_cons_succ, List.getElem?_cons_zero]; rfl
  rw [if_pos (by rfl)]
  refine wp_app rfl (by rfl) (by rfl) HRun.out ?_
  clear d0 d1 d0' d1'
  obtain ⟨d0, z0, _⟩ := Rows.bcell2 (pre := []) (q := 2) HR3.out rfl
  have d1 := (Rows.bc HR3.out.right.right.right 2 rfl).1
  refine hK.out _ _ ⟨d1, fun _ => d0⟩ (fun hS => ?_)
  simp only [Act.put, List.setIfInBounds_toArray, List.set_cons_zero, List.set_cons_succ]
  refine wpAnyL_take (i := 6) (oi := ?oi107) (v := ?v107) ?hi107 (by kernel_rfl) ?hf107 ?hr107 (by decide) ?hQ107 (Or.inl ⟨?hw107, ?hy107⟩) (⟨hS.1, fun h => hS.2 (by first | rfl | exact h)⟩) ?rest107
  case hi107 => simp only [List.getElem?_toArray, List.getElem?_cons_succ, List.getElem?_cons_zero]; rfl
  case hf107 => kernel_rfl
  case hr107 => kernel_rfl
  case hw107 => rfl
  case hy107 => (intro w hSw; (try dsimp only at hSw); go_simp; all_goals (first | done | with_reducible rfl))
  case hQ107 => exact fun _ _ _ h => h
  simp only [Act.put, List.setIfInBounds_toArray, List.set_cons_zero, List.set_cons_succ]
  refine wpAnyL_ready (rs := [7]) (by kernel_rfl) (by simp) ?_
  refine AllReadyL.cons (o := ?oi108) ?hi108 (fun K hK => ?step108) AllReadyL.nil
  case hi108 => simp only [List.getElem?_toArray, List.getElem?_cons_succ, List.getElem?_cons_zero]; rfl
  rw [if_pos (by rfl)]
  go_simp
  refine hK.out _ _ ⟨(World.cell?_setCell_far _ _ _ _ ne1).trans d1, fun h => absurd h (by decide)⟩ (fun hS => ?_)
  refine wpAnyL_done (by kernel_rfl) ?_ _
  clear HRun d0 d1 z0 hS
  have HR4 := hid ((show Rows (w3.setCell ⟨bo, 2, none⟩ (.slice A3 (1 + n) c3)) w.heap.size ([bxRow 26 3 bo [.int .i64 mo, .int .i64 ke, .slice A3 (1 + n) c3]] ++ (nestRows 35 (.slice A3 (1 + n) c3) es3 ++ ([bxRow 26 3 br [.int .i64 0, .int .i64 0, .slice none 0 0]] ++ [bxRow 26 3 w.heap.size [.int .i64 mo, .int .i64 ke, .slice A n c]]))) from Rows.boxset (pre := []) (j := 2) (u := .slice A3 (1 + n) c3) HR3.out).perm (List.Perm.append_left _ (List.perm_append_comm_assoc _ _ _)))
  have HB4 := hid (HB3.out.setCell (p := ⟨bo, 2, none⟩) hbo2 (.slice A3 (1 + n) c3))
  generalize w3.setCell ⟨bo, 2, none⟩ (.slice A3 (1 + n) c3) = w4 at *
  clear HR3 HB3 HR2 HB2
  generalize hm : 1 + n = m at *
  obtain ⟨K, rfl⟩ : ∃ K : Nat, ke = (K : Int) := ⟨ke.toNat, by omega⟩
  obtain ⟨o0, _, _⟩ := Rows.bcell2 (pre := []) (q := 0) HR4.out rfl
  obtain ⟨o1, _, _⟩ := Rows.bcell2 (pre := []) (q := 1) HR4.out rfl
  obtain ⟨o2, y2, _⟩ := Rows.bcell2 (pre := []) (q := 2) HR4.out rfl
  obtain ⟨r0, x0, _⟩ := Rows.bcell2 (pre := [_]) (q := 0) HR4.out rfl
  obtain ⟨r1, x1, _⟩ := Rows.bcell2 (pre := [_]) (q := 1) HR4.out rfl
  obtain ⟨r2, x2, _⟩ := Rows.bcell2 (pre := [_]) (q := 2) HR4.out rfl
  have p1 := (Rows.bc HR4.out.right.right.right 1 rfl).1
  have hle := HLE.out.1
  have hmc := HLE.out.2
  have ne2' : br ≠ bo := fun e => ne2 e.symm
  by_cases hgt : (K : Int) + 1 < (m : Int)
  · have s1 : (0 : Int) ≤ (K : Int) + 1 := by omega
    have s2 : ((K : Int) + 1).toNat = K + 1 := by omega
    have s3 : (K : Int) + 1 ≤ (c3 : Int) := by omega
    have s4 : (K : Int) + 1 ≤ (m : Int) := by omega
    have s5 : K + 1 ≤ m := by omega
    replace hle := hid hle
    clear hm
    go_wp2_with fail
    have Y1 := Rows.boxset (pre := []) (j := 2) (u := .slice A3 (K + 1) c3) HR4.out
    have Y2 := Rows.boxset (pre := [_]) (j := 0) (u := .int .i64 mo) Y1
    have Y3 := Rows.boxset (pre := [_]) (j := 1) (u := .int .i64 K) Y2
    have Y4 := Rows.boxset (pre := [_]) (j := 2) (u := .slice A3 (K + 1) c3) Y3
    have f0 := (Rows.bcell2 (pre := [_]) (q := 0) Y4 rfl).1
    have f1 := (Rows.bcell2 (pre := [_]) (q := 1) Y4 rfl).1
    have f2 := (Rows.bcell2 (pre := [_]) (q := 2) Y4 rfl).1
    refine bodyPost_ret (v := .agg #[.int .i64 mo, .int .i64 K, .slice A3 (K + 1) c3]) (by simp [results, Try.results47, go_sem, f0, f1, f2]) rfl ?_
    have hcut := nest_cut (Rows.right Y4) hle.out s5 (by omega)
    refine ⟨_, nestRows 35 (.slice A3 (K + 1) c3) (es3.take (K + 1)), rfl, ⟨_, rfl, ?_⟩, hcut.left, ?_⟩
    · have h9 := NE.take (k := K + 1) HE.out
      exact h9.toR
    · exact (((HB4.out.setCell (p := ⟨bo, 2, none⟩) hbo2 (.slice A3 (K + 1) c3)).setCell (p := ⟨br, 0, none⟩) hbr2 (.int .i64 mo)).setCell (p := ⟨br, 1, none⟩) hbr2 (.int .i64 K)).setCell (p := ⟨br, 2, none⟩) hbr2 (.slice A3 (K + 1) c3)
  · replace hle := hid hle
    clear hm
    go_wp2_with fail
    have Y2 := Rows.boxset (pre := [_]) (j := 0) (u := .int .i64 mo) HR4.out
    have Y3 := Rows.boxset (pre := [_]) (j := 1) (u := .int .i64 K) Y2
    have Y4 := Rows.boxset (pre := [_]) (j := 2) (u := .slice A3 m c3) Y3
    have f0 := (Rows.bcell2 (pre := [_]) (q := 0) Y4 rfl).1
    have f1 := (Rows.bcell2 (pre := [_]) (q := 1) Y4 rfl).1
    have f2 := (Rows.bcell2 (pre := [_]) (q := 2) Y4 rfl).1
    refine bodyPost_ret (v := .agg #[.int .i64 mo, .int .i64 K, .slice A3 m c3]) (by simp [results, Try.results47, go_sem, f0, f1, f2]) rfl ?_
    refine ⟨_, nestRows 35 (.slice A3 m c3) es3, rfl, ⟨_, rfl, ?_⟩, (Rows.right Y4).left, ?_⟩
    · have h9 := HE.out.toR (T := 35) (v := .slice A3 m c3)
      have h8 := HE.out.1
      have h7 : (([] : TxtL) :: L).length ≤ K + 1 := by rw [hle.out] at h8; have : m = (([[]] : StrssD) ++ L).length := h8; simp at this; rw [List.length_cons]; omega
      show StrssR _ _ ((([] : TxtL) :: L).take (K + 1))
      rw [List.take_of_length_le h7]
      exact h9
    · exact ((HB4.out.setCell (p := ⟨br, 0, none⟩) hbr2 (.int .i64 mo)).setCell (p := ⟨br, 1, none⟩) hbr2 (.int .i64 K)).setCell (p := ⟨br, 2, none⟩) hbr2 (.slice A3 m c3)
end Go.Proofs.Ytoiagfdhanhnkaa
