/-
  WALK: the law FnValidFiles. By gen_fil.py.
-/
import Derived.Test.YtoiagfdhanhnkaaD18
import Derived.Test.YtoiagfdhanhnkaaF10
namespace Go.Proofs.Ytoiagfdhanhnkaa
open Go.RowKit Nm
set_option linter.unusedSimpArgs false
set_option linter.unusedVariables false
theorem fil_cut {d : Fil} (h : filOk d = true) : filOk ⟨d.mo, d.ke, d.li.take 1⟩ = true := by
  have h1 := fil_parts h
  have hl : (d.li.take 1).length = 1 := by rw [List.length_take]; omega
  refine filOk_of (d := ⟨d.mo, d.ke, d.li.take 1⟩) (items_good fun j hj => ?_) h1.2.1 h1.2.2.1 h1.2.2.2.1 h1.2.2.2.2.1 (by show 1 ≤ (d.li.take 1).length; omega) (by show ((d.li.take 1).length : Int) ≤ d.ke + 1; omega)
  have hj1 : j < (d.li.take 1).length := hj
  have hj0 : j = 0 := by omega
  subst hj0
  have e : (d.li.take 1)[0]? = some (headL d.li) := by rw [List.getElem?_take_of_lt (by omega)]; exact head_at h1.2.2.2.2.2.1
  show itemOk d.mo 0 ((d.li.take 1).getD 0 []) = true
  rw [getD_atF e]
  exact items_at h1.1 (head_at h1.2.2.2.2.2.1)
theorem roll_ok {d : Fil} (h : filOk d = true) : filOk (rollX d) = true := by
  unfold rollX
  rw [h, if_pos rfl]
  by_cases h0 : (headL d.li).length = 0
  · rw [if_pos h0]; exact h
  · rw [if_neg h0]; exact fil_roll h (by omega)
set_option maxHeartbeats 16000000 in
set_option maxRecDepth 100000 in
theorem walk_FnValidFiles (a0 : Option Addr) (len0 cap0 : Nat) (z0 : List Int) (w : World) (w0 : IsRow .u8 w a0 len0 cap0 z0) :
    Calls Try.prog 6 #[.slice a0 len0 cap0] w (BoolPost w true) := by
  have hb0 := w0.leF
  by_cases h1 : (1048576 : Int) < (len0 : Int)
  · go_enter Try.func6, Try.ntmps6
    go_wp2_with fail
    go_ret
    exact ⟨rfl, Below.refl _ _⟩
  have DR := hid (drawValidFiles_c a0 len0 cap0 z0 w w0)
  clear w0
  go_enter Try.func6, Try.ntmps6
  go_wp2_with fail
  refine DR.out.mono ?_
  rintro e w1 ⟨v, rs, d, rfl, hs, hsm, hr, hb⟩
  obtain ⟨A, n, c, rfl⟩ := hs.form hr
  obtain ⟨mo, ke, L⟩ := d
  have hs' : FilR rs (.agg #[.int .i64 mo, .int .i64 ke, .slice A n c]) ⟨mo, ke, L⟩ := hs
  have HS := hid hs'
  have HSM := hid hsm
  have HF := hid (sm_fit hsm)
  have HB := hid (hb.alloc hb.size (.cells #[.int .i64 mo, .int .i64 ke, .slice A n c] 26))
  have HR := hid (hr.bx hb.size #[.int .i64 mo, .int .i64 ke, .slice A n c] 26 3 rfl)
  have hwb : w.heap.size ≤ w1.heap.size := hb.size
  clear hs hs' hsm hr hb DR
  have f0 := (Rows.bc HR.out.left 0 rfl).1
  have f1 := (Rows.bc HR.out.left 1 rfl).1
  have f2 := (Rows.bc HR.out.left 2 rfl).1
  go_wp2_with fail
  refine (implValidFiles_c (FilR.at_ HS.out HR.out.right HF.out) (Nat.le_refl _)).mono ?_
  rintro e wn ⟨rfl, hb⟩
  replace HR := hid (HR.out.below hb)
  replace HB := hid (HB.out.trans (hb.mono HB.out.size))
  clear hb f0 f1 f2
  have f0 := (Rows.bc HR.out.left 0 rfl).1
  have f1 := (Rows.bc HR.out.left 1 rfl).1
  have f2 := (Rows.bc HR.out.left 2 rfl).1
  cases hz : filOk ⟨mo, ke, L⟩ with
  | false =>
    have C2 := hid (specValidFiles_c (FilR.at_ HS.out HR.out.right HF.out) (Nat.le_refl _))
    have HZ := hid hz
    rw [hz] at C2
    clear hz
    go_wp2_with fail
    refine C2.out.mono ?_
    rintro e wn ⟨rfl, hb⟩
    replace HR := hid (HR.out.below hb)
    replace HB := hid (HB.out.trans (hb.mono HB.out.size))
    clear hb f0 f1 f2 C2
    have f0 := (Rows.bc HR.out.left 0 rfl).1
    have f1 := (Rows.bc HR.out.left 1 rfl).1
    have f2 := (Rows.bc HR.out.left 2 rfl).1
    have C3 := hid (specValidFiles_c (FilR.at_ HS.out HR.out.right HF.out) (Nat.le_refl _))
    rw [HZ.out] at C3
    go_wp2_with fail
    refine C3.out.mono ?_
    rintro e wn ⟨rfl, hb⟩
    replace HB := hid (HB.out.trans (hb.mono HB.out.size))
    clear hb
    go_wp2_with fail
    go_ret
    exact ⟨rfl, HB.out⟩
  | true =>
    have C2 := hid (specValidFiles_c (FilR.at_ HS.out HR.out.right HF.out) (Nat.le_refl _))
    have HZ := hid hz
    rw [hz] at C2
    clear hz
    go_wp2_with fail
    refine C2.out.mono ?_
    rintro e wn ⟨rfl, hb⟩
    replace HR := hid (HR.out.below hb)
    replace HB := hid (HB.out.trans (hb.mono HB.out.size))
    clear hb f0 f1 f2 C2
    have f0 := (Rows.bc HR.out.left 0 rfl).1
    have f1 := (Rows.bc HR.out.left 1 rfl).1
    have f2 := (Rows.bc HR.out.left 2 rfl).1
    have hin := FilR.at_ HS.out HR.out.right HF.out
    obtain ⟨u, hu, hin2⟩ := hin
    have hu2 : u = .slice A n c := by simp at hu; exact hu.symm
    subst hu2
    have hln : L.length = n := NestIn.count hin2.1
    obtain ⟨_, _, e9, hnc, hcm⟩ := hin2.1.form
    have hnc2 : n ≤ c := by injection e9 with a1 a2 a3; omega
    have hcm2 : c ≤ maxLen := by injection e9 with a1 a2 a3; omega
    unfold maxLen at hcm2
    have hl1 : 1 ≤ n := by have := (fil_parts HZ.out).2.2.2.2.2.1; rw [← hln]; exact this
    have CC := hid (fun (W : World) (hW : Below wn.heap.size wn W) => (show Calls Try.prog 28 #[.agg #[.int .i64 mo, .int .i64 ke, .slice A 1 c]] W (BoolPost W true) by
      have h9 := implValidFiles_c (d := ⟨mo, ke, L.take 1⟩) (v := .agg #[.int .i64 mo, .int .i64 ke, .slice A 1 c]) (B := wn.heap.size) (w := W) ⟨_, rfl, (hin2.below hW (Nat.le_refl _)).cut hl1⟩ hW.size
      rwa [show filOk ⟨mo, ke, L.take 1⟩ = true from fil_cut HZ.out] at h9))
    have CR := hid (fun (W : World) (hW : Below wn.heap.size wn W) => implRollFiles_c (FilR.at_ HS.out (HR.out.right.below hW) HF.out) (Nat.le_refl _))
    have hlw : w1.heap.size < wn.heap.size := (Rows.bc HR.out.left 0 rfl).2
    have s1 : (1 : Int) ≤ (c : Int) := by omega
    have s2 : (1 : Int) ≤ (n : Int) := by omega
    have s3 : 1 ≤ c := by omega
    have HLN := hid hln
    clear hu hin2 e9 hnc hcm hln
    go_wp2_with fail
    refine wp_region_held_drew (S := (fun w' : World => w'.cell? ⟨w1.heap.size, 0, none⟩ = some (.int .i64 mo) ∧ w'.cell? ⟨w1.heap.size, 1, none⟩ = some (.int .i64 ke) ∧ w'.cell? ⟨w1.heap.size, 2, none⟩ = some (.slice A n c))) (by kernel_rfl) ⟨f0, f1, f2⟩ (fun hS => ?_)
    have hb2 : Below wn.heap.size wn wn.drew := (Below.refl _ _).drew
    refine wpAnyH_take (i := 0) (oi := ?oi101) (v := ?v101) ?hi101 (by kernel_rfl) ?hf101 ?hr101 ?hQ101 (Or.inl ⟨?hw101, ?hy101⟩) (by assumption) ?rest101
    case hi101 => simp only [List.getElem?_toArray, List.getElem?_cons_succ, List.getElem?_cons_zero]; rfl
    case hf101 => kernel_rfl
    case hr101 => kernel_rfl
    case hw101 => rfl
    case hy101 => (intro w hSw; (try dsimp only at hSw); go_simp; all_goals (first | done | with_reducible rfl))
    case hQ101 => exact fun _ _ _ h => h
    simp only [Act.put, List.setIfInBounds_toArray, List.set_cons_zero, List.set_cons_succ]
    refine wpAnyH_take (i := 1) (oi := ?oi102) (v := ?v102) ?hi102 (by kernel_rfl) ?hf102 ?hr102 ?hQ102 (Or.inl ⟨?hw102, ?hy102⟩) (by assumption) ?rest102
    case hi102 => simp only [List.getElem?_toArray, List.getElem?_cons_succ, List.getElem?_cons_zero]; rfl
    case hf102 => kernel_rfl
    case hr102 => kernel_rfl
    case hw102 => rfl
    case hy102 => (intro w hSw; (try dsimp only at hSw); go_simp; all_goals (first | done | with_reducible rfl))
    case hQ102 => exact fun _ _ _ h => h
    simp only [Act.put, List.setIfInBounds_toArray, List.set_cons_zero, List.set_cons_succ]
    refine wpAnyH_take (i := 2) (oi := ?oi103) (v := ?v103) ?hi103 (by kernel_rfl) ?hf103 ?hr103 ?hQ103 (Or.inl ⟨?hw103, ?hy103⟩) (by assumption) ?rest103
    case hi103 => simp only [List.getElem?_toArray, List.getElem?_cons_succ, List.getElem?_cons_zero]; rfl
    case hf103 => kernel_rfl
    case hr103 => kernel_rfl
    case hw103 => rfl
    case hy103 => (intro w hSw; (try dsimp only at hSw); go_simp; all_goals (first | done | with_reducible rfl))
    case hQ103 => exact fun _ _ _ h => h
    simp only [Act.put, List.setIfInBounds_toArray, List.set_cons_zero, List.set_cons_succ]
    refine wpAnyH_take (i := 3) (oi := ?oi104) (v := ?v104) ?hi104 (by kernel_rfl) ?hf104 ?hr104 ?hQ104 (Or.inl ⟨?hw104, ?hy104⟩) (by assumption) ?rest104
    case hi104 => simp only [List.getElem?_toArray, List.getElem?_cons_succ, List.getElem?_cons_zero]; rfl
    case hf104 => kernel_rfl
    case hr104 => kernel_rfl
    case hw104 => rfl
    case hy104 => (intro w hSw; (try dsimp only at hSw); go_simp; all_goals (first | done | with_reducible rfl))
    case hQ104 => exact fun _ _ _ h => h
    simp only [Act.put, List.setIfInBounds_toArray, List.set_cons_zero, List.set_cons_succ]
    refine wpAnyH_take (i := 4) (oi := ?oi105) (v := ?v105) ?hi105 (by kernel_rfl) ?hf105 ?hr105 ?hQ105 (Or.inl ⟨?hw105, ?hy105⟩) (by assumption) ?rest105
    case hi105 => simp only [List.getElem?_toArray, List.getElem?_cons_succ, List.getElem?_cons_zero]; rfl
    case hf105 => kernel_rfl
    case hr105 => kernel_rfl
    case hw105 => rfl
    case hy105 => (intro w hSw; (try dsimp only at hSw); go_simp; all_goals (first | done | with_reducible rfl))
    case hQ105 => exact fun _ _ _ h => h
    simp only [Act.put, List.setIfInBounds_toArray, List.set_cons_zero, List.set_cons_succ]
    refine wpAnyH_take (i := 5) (oi := ?oi106) (v := ?v106) ?hi106 (by kernel_rfl) ?hf106 ?hr106 ?hQ106 (Or.inl ⟨?hw106, ?hy106⟩) (by assumption) ?rest106
    case hi106 => simp only [List.getElem?_toArray, List.getElem?_cons_succ, List.getElem?_cons_zero]; rfl
    case hf106 => kernel_rfl
    case hr106 => kernel_rfl
    case hw106 => rfl
    case hy106 => (intro w hSw; (try dsimp only at hSw); go_simp; all_goals (first | done | with_reducible rfl))
    case hQ106 => exact fun _ _ _ h => h
    simp only [Act.put, List.setIfInBounds_toArray, List.set_cons_zero, List.set_cons_succ]
    refine wpAnyH_take (i := 6) (oi := ?oi107) (v := ?v107) ?hi107 (by kernel_rfl) ?hf107 ?hr107 ?hQ107 (Or.inl ⟨?hw107, ?hy107⟩) (by assumption) ?rest107
    case hi107 => simp only [List.getElem?_toArray, List.getElem?_cons_succ, List.getElem?_cons_zero]; rfl
    case hf107 => kernel_rfl
    case hr107 => kernel_rfl
    case hw107 => rfl
    case hy107 => (intro w hSw; (try dsimp only at hSw); go_simp; all_goals (first | done | with_reducible rfl))
    case hQ107 => exact fun _ _ _ h => h
    simp only [Act.put, List.setIfInBounds_toArray, List.set_cons_zero, List.set_cons_succ]
    refine wpAnyH_take (i := 7) (oi := ?oi108) (v := ?v108) ?hi108 (by kernel_rfl) ?hf108 ?hr108 ?hQ108 (Or.inl ⟨?hw108, ?hy108⟩) (by assumption) ?rest108
    case hi108 => simp only [List.getElem?_toArray, List.getElem?_cons_succ, List.getElem?_cons_zero]; rfl
    case hf108 => kernel_rfl
    case hr108 => kernel_rfl
    case hw108 => rfl
    case hy108 => (intro w hSw; (try dsimp only at hSw); go_simp; all_goals (first | done | with_reducible rfl))
    case hQ108 => exact fun _ _ _ h => h
    simp only [Act.put, List.setIfInBounds_toArray, List.set_cons_zero, List.set_cons_succ]
    refine wpAnyH_ready (rs := [8]) (by kernel_rfl) (by simp) ?_
    refine AllReadyH.cons (o := ?oi109) ?hi109 (fun K hK => ?step109) AllReadyH.nil
    case hi109 => simp only [List.getElem?_toArray, List.getElem?_cons_succ, List.getElem?_cons_zero]; rfl
    rw [if_pos (by rfl)]
    go_simp
    go_at_call 28
    refine (CC.out _ hb2).mono ?_
    rintro e w4 ⟨rfl, hb⟩
    have hb4 : Below wn.heap.size wn w4 := hb2.trans hb
    have k0 := (hb4.cell (p := ⟨w1.heap.size, 0, none⟩) hlw).trans f0
    have k1 := (hb4.cell (p := ⟨w1.heap.size, 1, none⟩) hlw).trans f1
    have k2 := (hb4.cell (p := ⟨w1.heap.size, 2, none⟩) hlw).trans f2
    refine hK.out _ _ ⟨k0, k1, k2⟩ (fun hS9 => ?_)
    refine wpAnyH_take (i := 9) (oi := ?oi110) (v := ?v110) ?hi110 (by kernel_rfl) ?hf110 ?hr110 ?hQ110 (Or.inl ⟨?hw110, ?hy110⟩) (by assumption) ?rest110
    case hi110 => simp only [List.getElem?_toArray, List.getElem?_cons_succ, List.getElem?_cons_zero]; rfl
    case hf110 => kernel_rfl
    case hr110 => kernel_rfl
    case hw110 => rfl
    case hy110 => (intro w hSw; (try dsimp only at hSw); go_simp; all_goals (first | done | with_reducible rfl))
    case hQ110 => exact fun _ _ _ h => h
    simp only [Act.put, List.setIfInBounds_toArray, List.set_cons_zero, List.set_cons_succ]
    refine wpAnyH_take (i := 10) (oi := ?oi111) (v := ?v111) ?hi111 (by kernel_rfl) ?hf111 ?hr111 ?hQ111 (Or.inl ⟨?hw111, ?hy111⟩) (by assumption) ?rest111
    case hi111 => simp only [List.getElem?_toArray, List.getElem?_cons_succ, List.getElem?_cons_zero]; rfl
    case hf111 => kernel_rfl
    case hr111 => kernel_rfl
    case hw111 => rfl
    case hy111 => (intro w hSw; (try dsimp only at hSw); go_simp; all_goals (first | done | with_reducible rfl))
    case hQ111 => exact fun _ _ _ h => h
    simp only [Act.put, List.setIfInBounds_toArray, List.set_cons_zero, List.set_cons_succ]
    refine wpAnyH_ready (rs := [11]) (by kernel_rfl) (by simp) ?_
    refine AllReadyH.cons (o := ?oi112) ?hi112 (fun K hK => ?step112) AllReadyH.nil
    case hi112 => simp only [List.getElem?_toArray, List.getElem?_cons_succ, List.getElem?_cons_zero]; rfl
    rw [if_pos (by rfl)]
    go_simp
    go_at_call 15
    refine (CR.out _ hb4).mono ?_
    rintro e w5 ⟨u5, rs5, rfl, hs5, hr5, hb5⟩
    obtain ⟨A5, n5, c5, rfl⟩ := hs5.form hr5
    have hb6 : Below wn.heap.size wn w5 := hb4.trans (hb5.mono hb4.size)
    have CV := hid (implValidFiles_c (FilR.at_ hs5 hr5 rollX_fit) (Nat.le_refl _))
    rw [roll_ok HZ.out] at CV
    have j0 := (hb6.cell (p := ⟨w1.heap.size, 0, none⟩) hlw).trans f0
    have j1 := (hb6.cell (p := ⟨w1.heap.size, 1, none⟩) hlw).trans f1
    have j2 := (hb6.cell (p := ⟨w1.heap.size, 2, none⟩) hlw).trans f2
    refine hK.out _ _ ⟨j0, j1, j2⟩ (fun hS9 => ?_)
    refine wpAnyH_ready (rs := [12]) (by kernel_rfl) (by simp) ?_
    refine AllReadyH.cons (o := ?oi113) ?hi113 (fun K hK => ?step113) AllReadyH.nil
    case hi113 => simp only [List.getElem?_toArray, List.getElem?_cons_succ, List.getElem?_cons_zero]; rfl
    rw [if_pos (by rfl)]
    go_simp
    go_at_call 28
    refine CV.out.mono ?_
    rintro e w7 ⟨rfl, hb⟩
    have hb7 : Below wn.heap.size wn w7 := hb6.trans (hb.mono hb6.size)
    refine hK.out _ _ ⟨(hb7.cell (p := ⟨w1.heap.size, 0, none⟩) hlw).trans f0, (hb7.cell (p := ⟨w1.heap.size, 1, none⟩) hlw).trans f1, (hb7.cell (p := ⟨w1.heap.size, 2, none⟩) hlw).trans f2⟩ (fun hS9 => ?_)
    refine wpAnyH_take (i := 13) (oi := ?oi114) (v := ?v114) ?hi114 (by kernel_rfl) ?hf114 ?hr114 ?hQ114 (Or.inl ⟨?hw114, ?hy114⟩) (by assumption) ?rest114
    case hi114 => simp only [List.getElem?_toArray, List.getElem?_cons_succ, List.getElem?_cons_zero]; rfl
    case hf114 => kernel_rfl
    case hr114 => kernel_rfl
    case hw114 => rfl
    case hy114 => (intro w hSw; (try dsimp only at hSw); go_simp; all_goals (first | done | with_reducible rfl))
    case hQ114 => exact fun _ _ _ h => h
    simp only [Act.put, List.setIfInBounds_toArray, List.set_cons_zero, List.set_cons_succ]
    refine wpAnyH_take (i := 14) (oi := ?oi115) (v := ?v115) ?hi115 (by kernel_rfl) ?hf115 ?hr115 ?hQ115 (Or.inl ⟨?hw115, ?hy115⟩) (by assumption) ?rest115
    case hi115 => simp only [List.getElem?_toArray, List.getElem?_cons_succ, List.getElem?_cons_zero]; rfl
    case hf115 => kernel_rfl
    case hr115 => kernel_rfl
    case hw115 => rfl
    case hy115 => (intro w hSw; (try dsimp only at hSw); go_simp; all_goals (first | done | with_reducible rfl))
    case hQ115 => exact fun _ _ _ h => h
    simp only [Act.put, List.setIfInBounds_toArray, List.set_cons_zero, List.set_cons_succ]
    refine wpAnyH_done (by kernel_rfl) ?_ _
    have HB7 := hid (HB.out.trans (hb7.mono HB.out.size))
    clear hS hS9 f0 f1 f2 k0 k1 k2 j0 j1 j2
    go_wp2_with fail
    go_ret
    exact ⟨rfl, HB7.out⟩
end Go.Proofs.Ytoiagfdhanhnkaa
