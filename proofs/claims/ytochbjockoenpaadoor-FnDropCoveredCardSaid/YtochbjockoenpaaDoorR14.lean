/-
  RULES: DropCovered of the model.
-/
import Derived.Test.YtochbjockoenpaaDoorR13
namespace Go.Proofs.YtochbjockoenpaaDoor
open Go.RowKit Nm
set_option linter.unusedSimpArgs false
set_option linter.unusedVariables false

set_option maxHeartbeats 8000000 in
set_option maxRecDepth 100000 in
theorem specDropCovered_c (v : Value) (n B : Nat) (l : List Rul) (w : World) (hv : Ruls w B n v l) (hB : B ≤ w.heap.size) (hn : n ≤ maxTxt) :
    Calls Tryd.prog 7 #[v] w (RowPost w 33 4 (dropCov l).length ((dropCov l).flatMap rucells)) := by
  have hln := hv.count
  obtain ⟨A, c, rfl, hnc, hcm⟩ := hv.1.form
  have C := hid (specValidRules_c _ n B l w hv hB)
  unfold maxLen at hcm
  unfold maxTxt at hn
  have HV := hid (And.intro hv hln)
  clear hv hln
  cases hr : rulsOk l with
  | false =>
    rw [hr] at C
    have HD := hid (show dropCov l = [] by unfold dropCov; rw [hr]; rfl)
    clear hr
    go_enter Tryd.func7, Tryd.ntmps7
    go_wp2_with (go_at_call 15; refine C.out.mono ?_; rintro e w1 ⟨rfl, hb⟩)
    go_ret
    exact ⟨_, rfl, by rw [HD.out]; exact World.ownsRow_nil _ _ _ _, hb⟩
  | true =>
  rw [hr] at C
  have HD := hid (show dropCov l = rounds (pickIf l (freeC l)) l.length by unfold dropCov; rw [hr]; rfl)
  clear hr
  go_enter Tryd.func7, Tryd.ntmps7
  go_wp2_with (go_at_call 15; refine C.out.mono ?_; rintro e w1 ⟨rfl, hb⟩; have HB1 := hid hb; clear hb)
  go_loopw [3, 4] (fun v iv wr => ∃ (k : Nat) (x : List Rul), iv = .int .i64 k ∧ k ≤ n ∧ Hid (x = rounds (pickIf l (freeC l)) k) ∧ x.length ≤ k ∧ wr.ownsRow w.heap.size 33 4 v x.length (x.flatMap rucells) ∧ Hid (Below w.heap.size w wr)) (fun _ iv _ => n - (intOf iv).toNat)
  case atStart => exact ⟨0, [], rfl, by omega, rfl, by simp, own_base (World.ownsRow_lit w1 #[] 0 (Nat.le_refl _) (by unfold maxLen; omega) rfl) HB1.out.size, HB1.out.alloc HB1.out.size _⟩
  case round =>
    obtain ⟨k, x, rfl, hk, HE, hx, hown, HB⟩ := hrel
    obtain ⟨Ax, cx, rfl, _, _⟩ := (Sl.of_own hown).form
    have HO := hid hown
    clear hown
    by_cases hlt : k < n
    · obtain ⟨b, o, ac, wd, md, ln, rfl, hbB, hx1, c0, c1, c2, c3⟩ := rucells_at (HV.out.1.1.below HB.out hB) hlt
      have hfit := rucells_fit HV.out.1.2 hx1
      have HX := hid (And.intro hx1 hfit.2)
      have HFr := hid (show freeC l k ⟨ac, wd.data.toList, md.data.toList, ln⟩ = !((l.take k).any fun x => covB x ⟨ac, wd.data.toList, md.data.toList, ln⟩) from rfl)
      clear hx1 hfit
      obtain ⟨wo, hwo⟩ : ∃ wo, wo = wr := ⟨_, rfl⟩
      subst hwo
      go_wp2_with fail
      go_loopw [5, 6] (fun fv jv wr => ∃ (j : Nat) (f : Bool), jv = .int .i64 j ∧ fv = .bool f ∧ j ≤ k ∧ Hid (((l.take j).any fun x => covB x ⟨ac, wd.data.toList, md.data.toList, ln⟩) = !f) ∧ Hid (Below wo.heap.size wo wr)) (fun _ jv _ => k - (intOf jv).toNat)
      case atStart => exact ⟨0, true, rfl, rfl, by omega, by simp [Hid], Below.refl _ _⟩
      case round =>
        obtain ⟨j, f, rfl, rfl, hj, HZ, HBs⟩ := hrel
        have HW := hid (HB.out.trans (HBs.out.mono HB.out.size))
        by_cases hjk : j < k
        · obtain ⟨b', o', xa, xw, xm, xl, he', _, hx2, p0, p1, p2, p3⟩ := rucells_at (HV.out.1.1.below HW.out hB) (show j < n by omega)
          obtain ⟨rfl, rfl⟩ : b = b' ∧ o = o' := by simpa using he'
          have hfit2 := rucells_fit HV.out.1.2 hx2
          have C2 := hid (fun (W : World) => specCovers_c xa ac xl ln xw xm wd md W hfit2.2 HX.out.2)
          have HX2 := hid hx2
          have hbw : b < wo.heap.size := by have := HB.out.size; omega
          have hbs : b < wr.heap.size := by have := HBs.out.size; omega
          have q0 := (HBs.out.cell (p := ⟨b, o + k * 4, none⟩) hbw).trans c0
          have q1 := (HBs.out.cell (p := ⟨b, o + k * 4 + 1, none⟩) hbw).trans c1
          have q2 := (HBs.out.cell (p := ⟨b, o + k * 4 + 2, none⟩) hbw).trans c2
          have q3 := (HBs.out.cell (p := ⟨b, o + k * 4 + 3, none⟩) hbw).trans c3
          have s0 : (0 : Int) ≤ (k : Int) := by omega
          have s1 : (k : Int) < (n : Int) := by omega
          have s2 : ((k : Int)).toNat = k := by simp
          have t0 : (0 : Int) ≤ (j : Int) := by omega
          have t1 : (j : Int) < (n : Int) := by omega
          have t2 : ((j : Int)).toNat = j := by simp
          clear he' hx2 hfit2
          have HN := hid (any_next HZ.out HX2.out)
          cases f with
          | false =>
            have HN2 := hid (show ((l.take (j + 1)).any fun x => covB x ⟨ac, wd.data.toList, md.data.toList, ln⟩) = true from HN.out)
            clear C2
            go_wp2_with fail
            go_quiet (fail)
            go_wp2_with fail
            go_roundw
            case rel => exact ⟨j + 1, false, by go_num, rfl, by omega, HN2, below_dr HBs.out _⟩
            case measure => simp [intOf]; omega
          | true =>
            have HN2 := hid (show ((l.take (j + 1)).any fun x => covB x ⟨ac, wd.data.toList, md.data.toList, ln⟩) = covB ⟨xa, xw.data.toList, xm.data.toList, xl⟩ ⟨ac, wd.data.toList, md.data.toList, ln⟩ by rw [HN.out]; rfl)
            generalize covB ⟨xa, xw.data.toList, xm.data.toList, xl⟩ ⟨ac, wd.data.toList, md.data.toList, ln⟩ = y at C2 HN2
            go_wp2_with fail
            refine wp_region_held_drew (S := (fun w' : World => (w'.cell? ⟨b, o + j * 4, none⟩ = some (.int .i64 xa) ∧ w'.cell? ⟨b, o + j * 4 + 1, none⟩ = some (.string xw) ∧ w'.cell? ⟨b, o + j * 4 + 2, none⟩ = some (.string xm) ∧ w'.cell? ⟨b, o + j * 4 + 3, none⟩ = some (.int .i64 xl)) ∧ w'.cell? ⟨b, o + k * 4, none⟩ = some (.int .i64 ac) ∧ w'.cell? ⟨b, o + k * 4 + 1, none⟩ = some (.string wd) ∧ w'.cell? ⟨b, o + k * 4 + 2, none⟩ = some (.string md) ∧ w'.cell? ⟨b, o + k * 4 + 3, none⟩ = some (.int .i64 ln))) (by kernel_rfl) ⟨⟨p0, p1, p2, p3⟩, q0, q1, q2, q3⟩ (fun hS => ?_)
            refine wpAnyH_take (i := 0) (oi := ?oi101) (v := ?v101) ?hi101 (by kernel_rfl) ?hf101 ?hr101 ?hQ101 (Or.inl ⟨?hw101, ?hy101⟩) (by assumption) ?rest101
            case hi101 => simp only [List.getElem?_toArray, List.getElem?_cons_succ, List.getElem?_cons_zero]; rfl
            case hf101 => kernel_rfl
            case hr101 => kernel_rfl
            case hw101 => rfl
            case hy101 => (intro w hSw; (try dsimp only at hSw); go_simp; all_goals (first | done | with_reducible rfl))
            case hQ101 => exact fun _ _ _ h => h
            simp only [Act.put, List.setIfInBounds_toArray, List.set_cons_zero, List.set_cons_succ]
            refine wpAnyH_take (i := 1) (oi := ?oi102) (v := ?v102) ?hi102 (by kernel_rfl) ?hf102 ?hr102 ?hQ102 (Or.inl ⟨?hw102, ?hy102⟩) (by assumption) ?rest102
            case hi102 => simp only [List.getElem?_toArray, List.getElem?_cons_succ, List.getElem?_cons_zero]; rfl
            case hf102 => kernel_rfl
            case hr102 => kernel_rfl
            case hw102 => rfl
            case hy102 => (intro w hSw; (try dsimp only at hSw); go_simp; all_goals (first | done | with_reducible rfl))
            case hQ102 => exact fun _ _ _ h => h
            simp only [Act.put, List.setIfInBounds_toArray, List.set_cons_zero, List.set_cons_succ]
            refine wpAnyH_take (i := 2) (oi := ?oi103) (v := ?v103) ?hi103 (by kernel_rfl) ?hf103 ?hr103 ?hQ103 (Or.inl ⟨?hw103, ?hy103⟩) (by assumption) ?rest103
            case hi103 => simp only [List.getElem?_toArray, List.getElem?_cons_succ, List.getElem?_cons_zero]; rfl
            case hf103 => kernel_rfl
            case hr103 => kernel_rfl
            case hw103 => rfl
            case hy103 => (intro w hSw; (try dsimp only at hSw); go_simp; all_goals (first | done | with_reducible rfl))
            case hQ103 => exact fun _ _ _ h => h
            simp only [Act.put, List.setIfInBounds_toArray, List.set_cons_zero, List.set_cons_succ]
            refine wpAnyH_take (i := 3) (oi := ?oi104) (v := ?v104) ?hi104 (by kernel_rfl) ?hf104 ?hr104 ?hQ104 (Or.inl ⟨?hw104, ?hy104⟩) (by assumption) ?rest104
            case hi104 => simp only [List.getElem?_toArray, List.getElem?_cons_succ, List.getElem?_cons_zero]; rfl
            case hf104 => kernel_rfl
            case hr104 => kernel_rfl
            case hw104 => rfl
            case hy104 => (intro w hSw; (try dsimp only at hSw); go_simp; all_goals (first | done | with_reducible rfl))
            case hQ104 => exact fun _ _ _ h => h
            simp only [Act.put, List.setIfInBounds_toArray, List.set_cons_zero, List.set_cons_succ]
            refine wpAnyH_take (i := 4) (oi := ?oi105) (v := ?v105) ?hi105 (by kernel_rfl) ?hf105 ?hr105 ?hQ105 (Or.inl ⟨?hw105, ?hy105⟩) (by assumption) ?rest105
            case hi105 => simp only [List.getElem?_toArray, List.getElem?_cons_succ, List.getElem?_cons_zero]; rfl
            case hf105 => kernel_rfl
            case hr105 => kernel_rfl
            case hw105 => rfl
            case hy105 => (intro w hSw; (try dsimp only at hSw); go_simp; all_goals (first | done | with_reducible rfl))
            case hQ105 => exact fun _ _ _ h => h
            simp only [Act.put, List.setIfInBounds_toArray, List.set_cons_zero, List.set_cons_succ]
            refine wpAnyH_take (i := 5) (oi := ?oi106) (v := ?v106) ?hi106 (by kernel_rfl) ?hf106 ?hr106 ?hQ106 (Or.inl ⟨?hw106, ?hy106⟩) (by assumption) ?rest106
            case hi106 => simp only [List.getElem?_toArray, List.getElem?_cons_succ, List.getElem?_cons_zero]; rfl
            case hf106 => kernel_rfl
            case hr106 => kernel_rfl
            case hw106 => rfl
            case hy106 => (intro w hSw; (try dsimp only at hSw); go_simp; all_goals (first | done | with_reducible rfl))
            case hQ106 => exact fun _ _ _ h => h
            simp only [Act.put, List.setIfInBounds_toArray, List.set_cons_zero, List.set_cons_succ]
            refine wpAnyH_take (i := 6) (oi := ?oi107) (v := ?v107) ?hi107 (by kernel_rfl) ?hf107 ?hr107 ?hQ107 (Or.inl ⟨?hw107, ?hy107⟩) (by assumption) ?rest107
            case hi107 => simp only [List.getElem?_toArray, List.getElem?_cons_succ, List.getElem?_cons_zero]; rfl
            case hf107 => kernel_rfl
            case hr107 => kernel_rfl
            case hw107 => rfl
            case hy107 => (intro w hSw; (try dsimp only at hSw); go_simp; all_goals (first | done | with_reducible rfl))
            case hQ107 => exact fun _ _ _ h => h
            simp only [Act.put, List.setIfInBounds_toArray, List.set_cons_zero, List.set_cons_succ]
            refine wpAnyH_take (i := 7) (oi := ?oi108) (v := ?v108) ?hi108 (by kernel_rfl) ?hf108 ?hr108 ?hQ108 (Or.inl ⟨?hw108, ?hy108⟩) (by assumption) ?rest108
            case hi108 => simp only [List.getElem?_toArray, List.getElem?_cons_succ, List.getElem?_cons_zero]; rfl
            case hf108 => kernel_rfl
            case hr108 => kernel_rfl
            case hw108 => rfl
            case hy108 => (intro w hSw; (try dsimp only at hSw); go_simp; all_goals (first | done | with_reducible rfl))
            case hQ108 => exact fun _ _ _ h => h
            simp only [Act.put, List.setIfInBounds_toArray, List.set_cons_zero, List.set_cons_succ]
            refine wpAnyH_take (i := 8) (oi := ?oi109) (v := ?v109) ?hi109 (by kernel_rfl) ?hf109 ?hr109 ?hQ109 (Or.inl ⟨?hw109, ?hy109⟩) (by assumption) ?rest109
            case hi109 => simp only [List.getElem?_toArray, List.getElem?_cons_succ, List.getElem?_cons_zero]; rfl
            case hf109 => kernel_rfl
            case hr109 => kernel_rfl
            case hw109 => rfl
            case hy109 => (intro w hSw; (try dsimp only at hSw); go_simp; all_goals (first | done | with_reducible rfl))
            case hQ109 => exact fun _ _ _ h => h
            simp only [Act.put, List.setIfInBounds_toArray, List.set_cons_zero, List.set_cons_succ]
            refine wpAnyH_take (i := 9) (oi := ?oi110) (v := ?v110) ?hi110 (by kernel_rfl) ?hf110 ?hr110 ?hQ110 (Or.inl ⟨?hw110, ?hy110⟩) (by assumption) ?rest110
            case hi110 => simp only [List.getElem?_toArray, List.getElem?_cons_succ, List.getElem?_cons_zero]; rfl
            case hf110 => kernel_rfl
            case hr110 => kernel_rfl
            case hw110 => rfl
            case hy110 => (intro w hSw; (try dsimp only at hSw); go_simp; all_goals (first | done | with_reducible rfl))
            case hQ110 => exact fun _ _ _ h => h
            simp only [Act.put, List.setIfInBounds_toArray, List.set_cons_zero, List.set_cons_succ]
            refine wpAnyH_ready (rs := [10]) (by kernel_rfl) (by simp) ?_
            refine AllReadyH.cons (o := ?oi111) ?hi111 (fun K hK => ?step111) AllReadyH.nil
            case hi111 => simp only [List.getElem?_toArray, List.getElem?_cons_succ, List.getElem?_cons_zero]; rfl
            rw [if_pos (by rfl)]
            go_simp
            go_at_call 16
            refine (C2.out _).mono ?_
            rintro e w9 ⟨rfl, hb9⟩
            have hS9 : (w9.cell? ⟨b, o + j * 4, none⟩ = some (.int .i64 xa) ∧ w9.cell? ⟨b, o + j * 4 + 1, none⟩ = some (.string xw) ∧ w9.cell? ⟨b, o + j * 4 + 2, none⟩ = some (.string xm) ∧ w9.cell? ⟨b, o + j * 4 + 3, none⟩ = some (.int .i64 xl)) ∧ w9.cell? ⟨b, o + k * 4, none⟩ = some (.int .i64 ac) ∧ w9.cell? ⟨b, o + k * 4 + 1, none⟩ = some (.string wd) ∧ w9.cell? ⟨b, o + k * 4 + 2, none⟩ = some (.string md) ∧ w9.cell? ⟨b, o + k * 4 + 3, none⟩ = some (.int .i64 ln) :=
              ⟨⟨(hb9.cell (p := ⟨b, _, none⟩) hbs).trans p0, (hb9.cell (p := ⟨b, _, none⟩) hbs).trans p1, (hb9.cell (p := ⟨b, _, none⟩) hbs).trans p2, (hb9.cell (p := ⟨b, _, none⟩) hbs).trans p3⟩, (hb9.cell (p := ⟨b, _, none⟩) hbs).trans q0, (hb9.cell (p := ⟨b, _, none⟩) hbs).trans q1, (hb9.cell (p := ⟨b, _, none⟩) hbs).trans q2, (hb9.cell (p := ⟨b, _, none⟩) hbs).trans q3⟩
            have HB9 := hid (HBs.out.drew.trans (hb9.mono HBs.out.drew.size))
            clear hb9
            refine hK.out _ _ hS9 (fun _ => ?_)
            refine wpAnyH_take (i := 11) (oi := ?oi112) (v := ?v112) ?hi112 (by kernel_rfl) ?hf112 ?hr112 ?hQ112 (Or.inl ⟨?hw112, ?hy112⟩) (by assumption) ?rest112
            case hi112 => simp only [List.getElem?_toArray, List.getElem?_cons_succ, List.getElem?_cons_zero]; rfl
            case hf112 => kernel_rfl
            case hr112 => kernel_rfl
            case hw112 => rfl
            case hy112 => (intro w hSw; (try dsimp only at hSw); go_simp; all_goals (first | done | with_reducible rfl))
            case hQ112 => exact fun _ _ _ h => h
            simp only [Act.put, List.setIfInBounds_toArray, List.set_cons_zero, List.set_cons_succ]
            refine wpAnyH_take (i := 12) (oi := ?oi113) (v := ?v113) ?hi113 (by kernel_rfl) ?hf113 ?hr113 ?hQ113 (Or.inl ⟨?hw113, ?hy113⟩) (by assumption) ?rest113
            case hi113 => simp only [List.getElem?_toArray, List.getElem?_cons_succ, List.getElem?_cons_zero]; rfl
            case hf113 => kernel_rfl
            case hr113 => kernel_rfl
            case hw113 => rfl
            case hy113 => (intro w hSw; (try dsimp only at hSw); go_simp; all_goals (first | done | with_reducible rfl))
            case hQ113 => exact fun _ _ _ h => h
            simp only [Act.put, List.setIfInBounds_toArray, List.set_cons_zero, List.set_cons_succ]
            refine wpAnyH_take (i := 13) (oi := ?oi114) (v := ?v114) ?hi114 (by kernel_rfl) ?hf114 ?hr114 ?hQ114 (Or.inl ⟨?hw114, ?hy114⟩) (by assumption) ?rest114
            case hi114 => simp only [List.getElem?_toArray, List.getElem?_cons_succ, List.getElem?_cons_zero]; rfl
            case hf114 => kernel_rfl
            case hr114 => kernel_rfl
            case hw114 => rfl
            case hy114 => (intro w hSw; (try dsimp only at hSw); go_simp; all_goals (first | done | with_reducible rfl))
            case hQ114 => exact fun _ _ _ h => h
            simp only [Act.put, List.setIfInBounds_toArray, List.set_cons_zero, List.set_cons_succ]
            refine wpAnyH_done (by kernel_rfl) ?_ _
            clear hS hS9 p0 p1 p2 p3 q0 q1 q2 q3
            go_wp2_with fail
            go_roundw
            case rel => exact ⟨j + 1, !y, by go_num, rfl, by omega, (show _ = _ by rw [HN2.out]; simp), HB9.out⟩
            case measure => simp [intOf]; omega
        · obtain rfl : j = k := by omega
          have HO2 := hid (own_below HO.out HBs.out)
          have hbw : b < wo.heap.size := by have := HB.out.size; omega
          have q0 := (HBs.out.cell (p := ⟨b, o + j * 4, none⟩) hbw).trans c0
          have q1 := (HBs.out.cell (p := ⟨b, o + j * 4 + 1, none⟩) hbw).trans c1
          have q2 := (HBs.out.cell (p := ⟨b, o + j * 4 + 2, none⟩) hbw).trans c2
          have q3 := (HBs.out.cell (p := ⟨b, o + j * 4 + 3, none⟩) hbw).trans c3
          clear c0 c1 c2 c3
          cases f with
          | true =>
            have HS := hid (show x ++ [(⟨ac, wd.data.toList, md.data.toList, ln⟩ : Rul)] = rounds (pickIf l (freeC l)) (j + 1) by
              rw [rounds_hit (pickIf_hit HX.out.1 (by rw [HFr.out, HZ.out]; rfl)), HE.out])
            go_wp2_with (at_builtin; refine appRule _ rfl (.tmp 36) (.tmp 41) rfl w.heap.size _ x (by rfl) HO2.out ac wd md ln _ _ _ (by rfl) (by simp) (by omega) HW.out.size ?_)
            intro v' w4 ho4 hb4
            have HO4 := hid (And.intro (own_snoc ho4) (HW.out.trans hb4))
            clear ho4 hb4
            go_wp2_with fail
            go_roundw
            case rel => exact ⟨j + 1, _, by go_num, by omega, HS, by rw [List.length_append]; show x.length + 1 ≤ _; omega, HO4.out.1, HO4.out.2⟩
            case measure => simp [intOf]; omega
          | false =>
            have HS := hid (show x = rounds (pickIf l (freeC l)) (j + 1) by
              rw [rounds_miss (pickIf_miss HX.out.1 (by rw [HFr.out, HZ.out]; rfl)), HE.out])
            go_wp2_with fail
            go_roundw
            case rel => exact ⟨j + 1, x, by go_num, by omega, HS, by omega, HO2.out, HW.out⟩
            case measure => simp [intOf]; omega
    · have HF := hid (show x = dropCov l by rw [HE.out, HD.out, show l.length = k by have := HV.out.2; omega])
      go_wp2_with fail
      go_ret
      exact ⟨_, rfl, by rw [← HF.out]; exact HO.out, HB.out⟩
end Go.Proofs.YtochbjockoenpaaDoor
