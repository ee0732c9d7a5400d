/-
  WALK: the law FnPatchTree. By gen_patw.py.
-/
import Derived.Test.YteoblmhbjmefoaaPDM
import Derived.Test.YteoblmhbjmefoaaE22
import Derived.Test.YteoblmhbjmefoaaE13
import Derived.Test.YteoblmhbjmefoaaLookI
import Derived.Test.YteoblmhbjmefoaaSpotLaws
namespace Go.Proofs.Yteoblmhbjmefoaa
open Go.RowKit Nm
set_option linter.unusedSimpArgs false
set_option linter.unusedVariables false

theorem fit_none : dataFit [] [] := ⟨⟨by simp, by simp⟩, ⟨by simp, by simp⟩⟩
set_option maxHeartbeats 16000000 in
set_option maxRecDepth 100000 in
theorem walk_FnPatchTree (a0 : Option Addr) (len0 cap0 : Nat) (z0 : List Int) (w : World) (w0 : IsRow .u8 w a0 len0 cap0 z0) :
    Calls Try.prog 10 #[.slice a0 len0 cap0] w (BoolPost w true) := by
  have hb0 := w0.leT
  by_cases h1 : (1048576 : Int) < (len0 : Int)
  · go_enter Try.func10, Try.ntmps10
    go_wp2_with fail
    go_ret
    exact ⟨rfl, Below.refl _ _⟩
  have DR := hid (drawPatchTree_c a0 len0 cap0 z0 w w0)
  clear w0
  go_enter Try.func10, Try.ntmps10
  go_wp2_with fail
  refine DR.out.mono ?_
  rintro e w1 ⟨v, rs, L, H, q, vb, rsb, Lb, Hb, qb, rfl, hs, hsm, hsb, hsmb, hr, hrb, hb⟩
  obtain ⟨A1, n1, k1, A2, n2, k2, rfl, hn1, hn2⟩ := hs.form_ hr
  obtain ⟨B1, m1, j1, B2, m2, j2, rfl, hm1, hm2⟩ := hsb.form_ hrb
  have hd := sm_fit hsm (by omega)
  have hdb := sm_fit hsmb (by omega)
  have hbx : Below w1.heap.size w1 ((w1.alloc (.cells #[.slice A1 n1 k1, .slice A2 n2 k2, .int .i64 q] 30)).alloc (.cells #[.slice B1 m1 j1, .slice B2 m2 j2, .int .i64 qb] 30)) := ((Below.refl _ _).alloc (Nat.le_refl _) _).alloc (by simp) _
  have TI := hid ((hs.at_ hr hd).below hbx (Nat.le_refl _))
  have TJ := hid ((hsb.at_ hrb hdb).below hbx (Nat.le_refl _))
  have KA := hid ((Blk.new w1 #[.slice A1 n1 k1, .slice A2 n2 k2, .int .i64 q] 30).alloc (.cells #[.slice B1 m1 j1, .slice B2 m2 j2, .int .i64 qb] 30))
  have KB := hid (Blk.new (w1.alloc (.cells #[.slice A1 n1 k1, .slice A2 n2 k2, .int .i64 q] 30)) #[.slice B1 m1 j1, .slice B2 m2 j2, .int .i64 qb] 30)
  simp only [World.size_alloc] at KB
  have HB := hid (hb.trans (hbx.mono hb.size))
  have hl1 : w1.heap.size ≤ ((w1.alloc (.cells #[.slice A1 n1 k1, .slice A2 n2 k2, .int .i64 q] 30)).alloc (.cells #[.slice B1 m1 j1, .slice B2 m2 j2, .int .i64 qb] 30)).heap.size := by simp; omega
  have HL := hid (And.intro hn1 (And.intro hm1 (And.intro hsm hsmb)))
  have DX := hid (pat_res_fit L H q Lb Hb qb)
  have HD := hid hd
  clear hs hr hb hsm hsb hrb hsmb hn1 hn2 hm1 hm2 hbx DR hd hdb
  have d0 := (KA.out.2 0 _ rfl).1
  have d1 := (KA.out.2 1 _ rfl).1
  have d2 := (KA.out.2 2 _ rfl).1
  have e0 := (KB.out.2 0 _ rfl).1
  have e1 := (KB.out.2 1 _ rfl).1
  have e2 := (KB.out.2 2 _ rfl).1
  go_wp2_with fail
  generalize hbb : w1.heap.size + 1 = bb at *
  generalize hba : w1.heap.size = ba at *
  generalize ((w1.alloc (.cells #[.slice A1 n1 k1, .slice A2 n2 k2, .int .i64 q] 30)).alloc (.cells #[.slice B1 m1 j1, .slice B2 m2 j2, .int .i64 qb] 30)) = w2 at *
  clear hbb hba
  have HW2 := hid (Below.refl w2.heap.size w2)
  have TA := hid (fun (W : World) (hW : Below w2.heap.size w2 W) => (And.intro (TI.out.below hW hl1) (Nat.le_trans hl1 hW.size)))
  have TB := hid (fun (W : World) (hW : Below w2.heap.size w2 W) => (And.intro (TJ.out.below hW hl1) (Nat.le_trans hl1 hW.size)))
  cases hA : treeOk L H q with
  | false =>
    have hX : patX L H q Lb Hb qb = none := pat_none (fun e => by rw [hA] at e; exact absurd e.1 (by simp))
    have hB0 : ∃ b, treeOk Lb Hb qb = b := ⟨_, rfl⟩
    obtain ⟨okb, hB⟩ := hB0
    have CI := hid (fun (W : World) (hW : Below w2.heap.size w2 W) => (show Calls Try.prog 39 #[.agg #[.slice A1 n1 k1, .slice A2 n2 k2, .int .i64 q], .agg #[.slice B1 m1 j1, .slice B2 m2 j2, .int .i64 qb]] W (TreePost W [] [] 0) from by have h9 := implPatchTree_c (TA.out W hW).1 (TA.out W hW).2 (TB.out W hW).1 (TB.out W hW).2; rw [hX] at h9; exact h9))
    have CS := hid (fun (W : World) (hW : Below w2.heap.size w2 W) => (show Calls Try.prog 40 #[.agg #[.slice A1 n1 k1, .slice A2 n2 k2, .int .i64 q], .agg #[.slice B1 m1 j1, .slice B2 m2 j2, .int .i64 qb]] W (TreePost W [] [] 0) from by have h9 := specPatchTree_c (TA.out W hW).1 (TA.out W hW).2 (TB.out W hW).1 (TB.out W hW).2; rw [hX] at h9; exact h9))
    have CVA := hid (fun (W : World) (hW : Below w2.heap.size w2 W) => (show Calls Try.prog 29 #[.agg #[.slice A1 n1 k1, .slice A2 n2 k2, .int .i64 q]] W (BoolPost W false) from by have h9 := implValidTreeX_c (TA.out W hW).1 (TA.out W hW).2; rw [hA] at h9; exact h9))
    have CVB := hid (fun (W : World) (hW : Below w2.heap.size w2 W) => (show Calls Try.prog 29 #[.agg #[.slice B1 m1 j1, .slice B2 m2 j2, .int .i64 qb]] W (BoolPost W okb) from by have h9 := implValidTreeX_c (TB.out W hW).1 (TB.out W hW).2; rw [hB] at h9; exact h9))
    refine (CI.out _ HW2.out).mono ?_
    rintro e w3 ⟨v3, rs3, rfl, hs3, hr3, hb⟩
    obtain ⟨A3, n3, k3, A4, n4, k4, rfl, hn3, -⟩ := hs3.form_ hr3
    have hbx3 : Below w3.heap.size w3 (w3.alloc (.cells #[.slice A3 n3 k3, .slice A4 n4 k4, .int .i64 0] 30)) := (Below.refl _ _).alloc (Nat.le_refl _) _
    have TO := hid ((hs3.at_ hr3 fit_none).below hbx3 (Nat.le_refl _))
    have KO := hid (Blk.new w3 #[.slice A3 n3 k3, .slice A4 n4 k4, .int .i64 0] 30)
    have HW4 := hid (HW2.out.trans ((hb.trans (hbx3.mono hb.size)).mono HW2.out.size))
    have hlo : w3.heap.size ≤ (w3.alloc (.cells #[.slice A3 n3 k3, .slice A4 n4 k4, .int .i64 0] 30)).heap.size := by simp
    have HN3 := hid hn3
    clear hs3 hr3 hb hbx3 d0 d1 d2 e0 e1 e2 hn3
    go_wp2_with fail
    generalize hbo : w3.heap.size = bo at *
    generalize w3.alloc (.cells #[.slice A3 n3 k3, .slice A4 n4 k4, .int .i64 0] 30) = w4 at *
    clear hbo
    have TN := hid (fun (W : World) (hO : Below w4.heap.size w4 W) => (And.intro (TO.out.below hO hlo) (Nat.le_trans hlo hO.size)))
    have HO4 := hid (Below.refl w4.heap.size w4)
    have HWd := hid (HW4.out.drew)
    have HOd := hid (HO4.out.drew)
    refine wp_region_held_drew (S := (fun w' : World => (w'.cell? ⟨bo, 0, none⟩ = some (.slice A3 n3 k3) ∧ w'.cell? ⟨bo, 1, none⟩ = some (.slice A4 n4 k4) ∧ w'.cell? ⟨bo, 2, none⟩ = some (.int .i64 0)) ∧ (w'.cell? ⟨ba, 0, none⟩ = some (.slice A1 n1 k1) ∧ w'.cell? ⟨ba, 1, none⟩ = some (.slice A2 n2 k2) ∧ w'.cell? ⟨ba, 2, none⟩ = some (.int .i64 q)) ∧ (w'.cell? ⟨bb, 0, none⟩ = some (.slice B1 m1 j1) ∧ w'.cell? ⟨bb, 1, none⟩ = some (.slice B2 m2 j2) ∧ w'.cell? ⟨bb, 2, none⟩ = some (.int .i64 qb)))) (by kernel_rfl) ⟨⟨((KO.out.to HOd.out).2 0 _ rfl).1, ((KO.out.to HOd.out).2 1 _ rfl).1, ((KO.out.to HOd.out).2 2 _ rfl).1⟩, ⟨((KA.out.to HWd.out).2 0 _ rfl).1, ((KA.out.to HWd.out).2 1 _ rfl).1, ((KA.out.to HWd.out).2 2 _ rfl).1⟩, ⟨((KB.out.to HWd.out).2 0 _ rfl).1, ((KB.out.to HWd.out).2 1 _ rfl).1, ((KB.out.to HWd.out).2 2 _ rfl).1⟩⟩ (fun hS => ?_)
    refine wpAnyH_take (i := 0) (oi := ?oi101) (v := ?v101) ?hi101 (by kernel_rfl) ?hf101 ?hr101 ?hQ101 (Or.inl ⟨?hw101, ?hy101⟩) (by assumption) ?rest101
    case hi101 => simp only [List.getElem?_toArray, List.getElem?_cons_succ, List.getElem?_cons_zero]; rfl
    case hf101 => kernel_rfl
    case hr101 => kernel_rfl
    case hw101 => rfl
    case hy101 => (intro w hSw; (try dsimp only at hSw); go_simp; all_goals (first | done | with_reducible rfl))
    case hQ101 => exact fun _ _ _ h => h
    simp only [Act.put, List.setIfInBounds_toArray, List.set_cons_zero, List.set_cons_succ]
    refine wpAnyH_take (i := 1) (oi := ?oi102) (v := ?v102) ?hi102 (by kernel_rfl) ?hf102 ?hr102 ?hQ102 (Or.inl ⟨?hw102, ?hy102⟩) (by assumption) ?rest102
    case hi102 => simp only [List.getElem?_toArray, List.getElem?_cons_succ, List.getElem?_cons_zero]; rfl
    case hf102 => kernel_rfl
    case hr102 => kernel_rfl
    case hw102 => rfl
    case hy102 => (intro w hSw; (try dsimp only at hSw); go_simp; all_goals (first | done | with_reducible rfl))
    case hQ102 => exact fun _ _ _ h => h
    simp only [Act.put, List.setIfInBounds_toArray, List.set_cons_zero, List.set_cons_succ]
    refine wpAnyH_take (i := 2) (oi := ?oi103) (v := ?v103) ?hi103 (by kernel_rfl) ?hf103 ?hr103 ?hQ103 (Or.inl ⟨?hw103, ?hy103⟩) (by assumption) ?rest103
    case hi103 => simp only [List.getElem?_toArray, List.getElem?_cons_succ, List.getElem?_cons_zero]; rfl
    case hf103 => kernel_rfl
    case hr103 => kernel_rfl
    case hw103 => rfl
    case hy103 => (intro w hSw; (try dsimp only at hSw); go_simp; all_goals (first | done | with_reducible rfl))
    case hQ103 => exact fun _ _ _ h => h
    simp only [Act.put, List.setIfInBounds_toArray, List.set_cons_zero, List.set_cons_succ]
    refine wpAnyH_ready (rs := [3]) (by kernel_rfl) (by simp) ?_
    refine AllReadyH.cons (o := ?oi104) ?hi104 (fun K hK => ?step104) AllReadyH.nil
    case hi104 => simp only [List.getElem?_toArray, List.getElem?_cons_succ, List.getElem?_cons_zero]; rfl
    rw [if_pos (by rfl)]
    go_simp
    go_at_call 40
    refine (CS.out _ HWd.out).mono ?_
    rintro e w11 ⟨v11, rs11, rfl, hs11, hr11, hb⟩
    have HW11 := hid (HWd.out.trans (hb.mono HWd.out.size))
    have HO11 := hid (HOd.out.trans (hb.mono HOd.out.size))
    obtain ⟨P1, pn1, pk1, P2, pn2, pk2, rfl, -, -⟩ := hs11.form_ hr11
    have CQ := hid (equalTree_c (TN.out _ HO11.out).1 (hs11.at_ hr11 fit_none) (TN.out _ HO11.out).2 (Nat.le_refl _))
    clear hs11 hr11
    clear hb
    refine hK.out _ _ ⟨⟨((KO.out.to HO11.out).2 0 _ rfl).1, ((KO.out.to HO11.out).2 1 _ rfl).1, ((KO.out.to HO11.out).2 2 _ rfl).1⟩, ⟨((KA.out.to HW11.out).2 0 _ rfl).1, ((KA.out.to HW11.out).2 1 _ rfl).1, ((KA.out.to HW11.out).2 2 _ rfl).1⟩, ⟨((KB.out.to HW11.out).2 0 _ rfl).1, ((KB.out.to HW11.out).2 1 _ rfl).1, ((KB.out.to HW11.out).2 2 _ rfl).1⟩⟩ (fun hS => ?_)
    refine wpAnyH_ready (rs := [4]) (by kernel_rfl) (by simp) ?_
    refine AllReadyH.cons (o := ?oi105) ?hi105 (fun K hK => ?step105) AllReadyH.nil
    case hi105 => simp only [List.getElem?_toArray, List.getElem?_cons_succ, List.getElem?_cons_zero]; rfl
    rw [if_pos (by rfl)]
    go_simp
    go_at_call 26
    refine (CQ.out).mono ?_
    rintro e w12 ⟨rfl, hb⟩
    have HW12 := hid (HW11.out.trans (hb.mono HW11.out.size))
    have HO12 := hid (HO11.out.trans (hb.mono HO11.out.size))
    clear hb
    refine hK.out _ _ ⟨⟨((KO.out.to HO12.out).2 0 _ rfl).1, ((KO.out.to HO12.out).2 1 _ rfl).1, ((KO.out.to HO12.out).2 2 _ rfl).1⟩, ⟨((KA.out.to HW12.out).2 0 _ rfl).1, ((KA.out.to HW12.out).2 1 _ rfl).1, ((KA.out.to HW12.out).2 2 _ rfl).1⟩, ⟨((KB.out.to HW12.out).2 0 _ rfl).1, ((KB.out.to HW12.out).2 1 _ rfl).1, ((KB.out.to HW12.out).2 2 _ rfl).1⟩⟩ (fun hS => ?_)
    refine wpAnyH_take (i := 5) (oi := ?oi106) (v := ?v106) ?hi106 (by kernel_rfl) ?hf106 ?hr106 ?hQ106 (Or.inl ⟨?hw106, ?hy106⟩) (by assumption) ?rest106
    case hi106 => simp only [List.getElem?_toArray, List.getElem?_cons_succ, List.getElem?_cons_zero]; rfl
    case hf106 => kernel_rfl
    case hr106 => kernel_rfl
    case hw106 => rfl
    case hy106 => (intro w hSw; (try dsimp only at hSw); go_simp; all_goals (first | done | with_reducible rfl))
    case hQ106 => exact fun _ _ _ h => h
    simp only [Act.put, List.setIfInBounds_toArray, List.set_cons_zero, List.set_cons_succ]
    refine wpAnyH_take (i := 6) (oi := ?oi107) (v := ?v107) ?hi107 (by kernel_rfl) ?hf107 ?hr107 ?hQ107 (Or.inl ⟨?hw107, ?hy107⟩) (by assumption) ?rest107
    case hi107 => simp only [List.getElem?_toArray, List.getElem?_cons_succ, List.getElem?_cons_zero]; rfl
    case hf107 => kernel_rfl
    case hr107 => kernel_rfl
    case hw107 => rfl
    case hy107 => (intro w hSw; (try dsimp only at hSw); go_simp; all_goals (first | done | with_reducible rfl))
    case hQ107 => exact fun _ _ _ h => h
    simp only [Act.put, List.setIfInBounds_toArray, List.set_cons_zero, List.set_cons_succ]
    refine wpAnyH_take (i := 7) (oi := ?oi108) (v := ?v108) ?hi108 (by kernel_rfl) ?hf108 ?hr108 ?hQ108 (Or.inl ⟨?hw108, ?hy108⟩) (by assumption) ?rest108
    case hi108 => simp only [List.getElem?_toArray, List.getElem?_cons_succ, List.getElem?_cons_zero]; rfl
    case hf108 => kernel_rfl
    case hr108 => kernel_rfl
    case hw108 => rfl
    case hy108 => (intro w hSw; (try dsimp only at hSw); go_simp; all_goals (first | done | with_reducible rfl))
    case hQ108 => exact fun _ _ _ h => h
    simp only [Act.put, List.setIfInBounds_toArray, List.set_cons_zero, List.set_cons_succ]
    refine wpAnyH_ready (rs := [8]) (by kernel_rfl) (by simp) ?_
    refine AllReadyH.cons (o := ?oi109) ?hi109 (fun K hK => ?step109) AllReadyH.nil
    case hi109 => simp only [List.getElem?_toArray, List.getElem?_cons_succ, List.getElem?_cons_zero]; rfl
    rw [if_pos (by rfl)]
    go_simp
    go_at_call 29
    refine (CVA.out _ HW12.out).mono ?_
    rintro e w13 ⟨rfl, hb⟩
    have HW13 := hid (HW12.out.trans (hb.mono HW12.out.size))
    have HO13 := hid (HO12.out.trans (hb.mono HO12.out.size))
    clear hb
    refine hK.out _ _ ⟨⟨((KO.out.to HO13.out).2 0 _ rfl).1, ((KO.out.to HO13.out).2 1 _ rfl).1, ((KO.out.to HO13.out).2 2 _ rfl).1⟩, ⟨((KA.out.to HW13.out).2 0 _ rfl).1, ((KA.out.to HW13.out).2 1 _ rfl).1, ((KA.out.to HW13.out).2 2 _ rfl).1⟩, ⟨((KB.out.to HW13.out).2 0 _ rfl).1, ((KB.out.to HW13.out).2 1 _ rfl).1, ((KB.out.to HW13.out).2 2 _ rfl).1⟩⟩ (fun hS => ?_)
    refine wpAnyH_take (i := 9) (oi := ?oi110) (v := ?v110) ?hi110 (by kernel_rfl) ?hf110 ?hr110 ?hQ110 (Or.inl ⟨?hw110, ?hy110⟩) (by assumption) ?rest110
    case hi110 => simp only [List.getElem?_toArray, List.getElem?_cons_succ, List.getElem?_cons_zero]; rfl
    case hf110 => kernel_rfl
    case hr110 => kernel_rfl
    case hw110 => rfl
    case hy110 => (intro w hSw; (try dsimp only at hSw); go_simp; all_goals (first | done | with_reducible rfl))
    case hQ110 => exact fun _ _ _ h => h
    simp only [Act.put, List.setIfInBounds_toArray, List.set_cons_zero, List.set_cons_succ]
    refine wpAnyH_take (i := 10) (oi := ?oi111) (v := ?v111) ?hi111 (by kernel_rfl) ?hf111 ?hr111 ?hQ111 (Or.inl ⟨?hw111, ?hy111⟩) (by assumption) ?rest111
    case hi111 => simp only [List.getElem?_toArray, List.getElem?_cons_succ, List.getElem?_cons_zero]; rfl
    case hf111 => kernel_rfl
    case hr111 => kernel_rfl
    case hw111 => rfl
    case hy111 => (intro w hSw; (try dsimp only at hSw); go_simp; all_goals (first | done | with_reducible rfl))
    case hQ111 => exact fun _ _ _ h => h
    simp only [Act.put, List.setIfInBounds_toArray, List.set_cons_zero, List.set_cons_succ]
    refine wpAnyH_take (i := 11) (oi := ?oi112) (v := ?v112) ?hi112 (by kernel_rfl) ?hf112 ?hr112 ?hQ112 (Or.inl ⟨?hw112, ?hy112⟩) (by assumption) ?rest112
    case hi112 => simp only [List.getElem?_toArray, List.getElem?_cons_succ, List.getElem?_cons_zero]; rfl
    case hf112 => kernel_rfl
    case hr112 => kernel_rfl
    case hw112 => rfl
    case hy112 => (intro w hSw; (try dsimp only at hSw); go_simp; all_goals (first | done | with_reducible rfl))
    case hQ112 => exact fun _ _ _ h => h
    simp only [Act.put, List.setIfInBounds_toArray, List.set_cons_zero, List.set_cons_succ]
    refine wpAnyH_take (i := 12) (oi := ?oi113) (v := undef) ?hi113 (by kernel_rfl) ?hf113 ?hr113 ?hQ113 (Or.inr ⟨?hw113, rfl⟩) (by assumption) ?rest113
    case hi113 => simp only [List.getElem?_toArray, List.getElem?_cons_succ, List.getElem?_cons_zero]; rfl
    case hf113 => kernel_rfl
    case hr113 => kernel_rfl
    case hw113 => rfl
    case hQ113 => exact fun _ _ _ h => h
    simp only [Act.put, List.setIfInBounds_toArray, List.set_cons_zero, List.set_cons_succ]
    refine wpAnyH_take (i := 13) (oi := ?oi114) (v := undef) ?hi114 (by kernel_rfl) ?hf114 ?hr114 ?hQ114 (Or.inr ⟨?hw114, rfl⟩) (by assumption) ?rest114
    case hi114 => simp only [List.getElem?_toArray, List.getElem?_cons_succ, List.getElem?_cons_zero]; rfl
    case hf114 => kernel_rfl
    case hr114 => kernel_rfl
    case hw114 => rfl
    case hQ114 => exact fun _ _ _ h => h
    simp only [Act.put, List.setIfInBounds_toArray, List.set_cons_zero, List.set_cons_succ]
    refine wpAnyH_take (i := 14) (oi := ?oi115) (v := undef) ?hi115 (by kernel_rfl) ?hf115 ?hr115 ?hQ115 (Or.inr ⟨?hw115, rfl⟩) (by assumption) ?rest115
    case hi115 => simp only [List.getElem?_toArray, List.getElem?_cons_succ, List.getElem?_cons_zero]; rfl
    case hf115 => kernel_rfl
    case hr115 => kernel_rfl
    case hw115 => rfl
    case hQ115 => exact fun _ _ _ h => h
    simp only [Act.put, List.setIfInBounds_toArray, List.set_cons_zero, List.set_cons_succ]
    refine wpAnyH_take (i := 15) (oi := ?oi116) (v := ?v116) ?hi116 (by kernel_rfl) ?hf116 ?hr116 ?hQ116 (Or.inl ⟨?hw116, ?hy116⟩) (by assumption) ?rest116
    case hi116 => simp only [List.getElem?_toArray, List.getElem?_cons_succ, List.getElem?_cons_zero]; rfl
    case hf116 => kernel_rfl
    case hr116 => kernel_rfl
    case hw116 => rfl
    case hy116 => (intro w hSw; (try dsimp only at hSw); go_simp; all_goals (first | done | with_reducible rfl))
    case hQ116 => exact fun _ _ _ h => h
    simp only [Act.put, List.setIfInBounds_toArray, List.set_cons_zero, List.set_cons_succ]
    refine wpAnyH_done (by kernel_rfl) ?_ _
    clear hS
    go_wp2_with fail
    have HWe := hid (HW13.out.drew)
    have HOe := hid (HO13.out.drew)
    refine wp_region_held_drew (S := (fun w' : World => (w'.cell? ⟨bo, 0, none⟩ = some (.slice A3 n3 k3) ∧ w'.cell? ⟨bo, 1, none⟩ = some (.slice A4 n4 k4) ∧ w'.cell? ⟨bo, 2, none⟩ = some (.int .i64 0)) ∧ (w'.cell? ⟨ba, 0, none⟩ = some (.slice A1 n1 k1) ∧ w'.cell? ⟨ba, 1, none⟩ = some (.slice A2 n2 k2) ∧ w'.cell? ⟨ba, 2, none⟩ = some (.int .i64 q)) ∧ (w'.cell? ⟨bb, 0, none⟩ = some (.slice B1 m1 j1) ∧ w'.cell? ⟨bb, 1, none⟩ = some (.slice B2 m2 j2) ∧ w'.cell? ⟨bb, 2, none⟩ = some (.int .i64 qb)))) (by kernel_rfl) ⟨⟨((KO.out.to HOe.out).2 0 _ rfl).1, ((KO.out.to HOe.out).2 1 _ rfl).1, ((KO.out.to HOe.out).2 2 _ rfl).1⟩, ⟨((KA.out.to HWe.out).2 0 _ rfl).1, ((KA.out.to HWe.out).2 1 _ rfl).1, ((KA.out.to HWe.out).2 2 _ rfl).1⟩, ⟨((KB.out.to HWe.out).2 0 _ rfl).1, ((KB.out.to HWe.out).2 1 _ rfl).1, ((KB.out.to HWe.out).2 2 _ rfl).1⟩⟩ (fun hS => ?_)
    refine wpAnyH_take (i := 0) (oi := ?oi117) (v := ?v117) ?hi117 (by kernel_rfl) ?hf117 ?hr117 ?hQ117 (Or.inl ⟨?hw117, ?hy117⟩) (by assumption) ?rest117
    case hi117 => simp only [List.getElem?_toArray, List.getElem?_cons_succ, List.getElem?_cons_zero]; rfl
    case hf117 => kernel_rfl
    case hr117 => kernel_rfl
    case hw117 => rfl
    case hy117 => (intro w hSw; (try dsimp only at hSw); go_simp; all_goals (first | done | with_reducible rfl))
    case hQ117 => exact fun _ _ _ h => h
    simp only [Act.put, List.setIfInBounds_toArray, List.set_cons_zero, List.set_cons_succ]
    refine wpAnyH_take (i := 1) (oi := ?oi118) (v := ?v118) ?hi118 (by kernel_rfl) ?hf118 ?hr118 ?hQ118 (Or.inl ⟨?hw118, ?hy118⟩) (by assumption) ?rest118
    case hi118 => simp only [List.getElem?_toArray, List.getElem?_cons_succ, List.getElem?_cons_zero]; rfl
    case hf118 => kernel_rfl
    case hr118 => kernel_rfl
    case hw118 => rfl
    case hy118 => (intro w hSw; (try dsimp only at hSw); go_simp; all_goals (first | done | with_reducible rfl))
    case hQ118 => exact fun _ _ _ h => h
    simp only [Act.put, List.setIfInBounds_toArray, List.set_cons_zero, List.set_cons_succ]
    refine wpAnyH_take (i := 2) (oi := ?oi119) (v := ?v119) ?hi119 (by kernel_rfl) ?hf119 ?hr119 ?hQ119 (Or.inl ⟨?hw119, ?hy119⟩) (by assumption) ?rest119
    case hi119 => simp only [List.getElem?_toArray, List.getElem?_cons_succ, List.getElem?_cons_zero]; rfl
    case hf119 => kernel_rfl
    case hr119 => kernel_rfl
    case hw119 => rfl
    case hy119 => (intro w hSw; (try dsimp only at hSw); go_simp; all_goals (first | done | with_reducible rfl))
    case hQ119 => exact fun _ _ _ h => h
    simp only [Act.put, List.setIfInBounds_toArray, List.set_cons_zero, List.set_cons_succ]
    refine wpAnyH_ready (rs := [3]) (by kernel_rfl) (by simp) ?_
    refine AllReadyH.cons (o := ?oi120) ?hi120 (fun K hK => ?step120) AllReadyH.nil
    case hi120 => simp only [List.getElem?_toArray, List.getElem?_cons_succ, List.getElem?_cons_zero]; rfl
    rw [if_pos (by rfl)]
    go_simp
    go_at_call 40
    refine (CS.out _ HWe.out).mono ?_
    rintro e w21 ⟨v21, rs21, rfl, hs21, hr21, hb⟩
    have HW21 := hid (HWe.out.trans (hb.mono HWe.out.size))
    have HO21 := hid (HOe.out.trans (hb.mono HOe.out.size))
    obtain ⟨P3, pn3, pk3, P4, pn4, pk4, rfl, -, -⟩ := hs21.form_ hr21
    have CQ2 := hid (equalTree_c (TN.out _ HO21.out).1 (hs21.at_ hr21 fit_none) (TN.out _ HO21.out).2 (Nat.le_refl _))
    clear hs21 hr21
    clear hb
    refine hK.out _ _ ⟨⟨((KO.out.to HO21.out).2 0 _ rfl).1, ((KO.out.to HO21.out).2 1 _ rfl).1, ((KO.out.to HO21.out).2 2 _ rfl).1⟩, ⟨((KA.out.to HW21.out).2 0 _ rfl).1, ((KA.out.to HW21.out).2 1 _ rfl).1, ((KA.out.to HW21.out).2 2 _ rfl).1⟩, ⟨((KB.out.to HW21.out).2 0 _ rfl).1, ((KB.out.to HW21.out).2 1 _ rfl).1, ((KB.out.to HW21.out).2 2 _ rfl).1⟩⟩ (fun hS => ?_)
    refine wpAnyH_ready (rs := [4]) (by kernel_rfl) (by simp) ?_
    refine AllReadyH.cons (o := ?oi121) ?hi121 (fun K hK => ?step121) AllReadyH.nil
    case hi121 => simp only [List.getElem?_toArray, List.getElem?_cons_succ, List.getElem?_cons_zero]; rfl
    rw [if_pos (by rfl)]
    go_simp
    go_at_call 26
    refine (CQ2.out).mono ?_
    rintro e w22 ⟨rfl, hb⟩
    have HW22 := hid (HW21.out.trans (hb.mono HW21.out.size))
    have HO22 := hid (HO21.out.trans (hb.mono HO21.out.size))
    clear hb
    refine hK.out _ _ ⟨⟨((KO.out.to HO22.out).2 0 _ rfl).1, ((KO.out.to HO22.out).2 1 _ rfl).1, ((KO.out.to HO22.out).2 2 _ rfl).1⟩, ⟨((KA.out.to HW22.out).2 0 _ rfl).1, ((KA.out.to HW22.out).2 1 _ rfl).1, ((KA.out.to HW22.out).2 2 _ rfl).1⟩, ⟨((KB.out.to HW22.out).2 0 _ rfl).1, ((KB.out.to HW22.out).2 1 _ rfl).1, ((KB.out.to HW22.out).2 2 _ rfl).1⟩⟩ (fun hS => ?_)
    refine wpAnyH_take (i := 5) (oi := ?oi122) (v := ?v122) ?hi122 (by kernel_rfl) ?hf122 ?hr122 ?hQ122 (Or.inl ⟨?hw122, ?hy122⟩) (by assumption) ?rest122
    case hi122 => simp only [List.getElem?_toArray, List.getElem?_cons_succ, List.getElem?_cons_zero]; rfl
    case hf122 => kernel_rfl
    case hr122 => kernel_rfl
    case hw122 => rfl
    case hy122 => (intro w hSw; (try dsimp only at hSw); go_simp; all_goals (first | done | with_reducible rfl))
    case hQ122 => exact fun _ _ _ h => h
    simp only [Act.put, List.setIfInBounds_toArray, List.set_cons_zero, List.set_cons_succ]
    refine wpAnyH_done (by kernel_rfl) ?_ _
    clear hS
    go_wp2_with fail
    go_ret
    exact ⟨rfl, HB.out.trans (HW22.out.mono HB.out.size)⟩
  | true =>
    cases hB : treeOk Lb Hb qb with
    | false =>
      have hX : patX L H q Lb Hb qb = none := pat_none (fun e => by rw [hB] at e; exact absurd e.2 (by simp))
      have CI := hid (fun (W : World) (hW : Below w2.heap.size w2 W) => (show Calls Try.prog 39 #[.agg #[.slice A1 n1 k1, .slice A2 n2 k2, .int .i64 q], .agg #[.slice B1 m1 j1, .slice B2 m2 j2, .int .i64 qb]] W (TreePost W [] [] 0) from by have h9 := implPatchTree_c (TA.out W hW).1 (TA.out W hW).2 (TB.out W hW).1 (TB.out W hW).2; rw [hX] at h9; exact h9))
      have CS := hid (fun (W : World) (hW : Below w2.heap.size w2 W) => (show Calls Try.prog 40 #[.agg #[.slice A1 n1 k1, .slice A2 n2 k2, .int .i64 q], .agg #[.slice B1 m1 j1, .slice B2 m2 j2, .int .i64 qb]] W (TreePost W [] [] 0) from by have h9 := specPatchTree_c (TA.out W hW).1 (TA.out W hW).2 (TB.out W hW).1 (TB.out W hW).2; rw [hX] at h9; exact h9))
      have CVA := hid (fun (W : World) (hW : Below w2.heap.size w2 W) => (show Calls Try.prog 29 #[.agg #[.slice A1 n1 k1, .slice A2 n2 k2, .int .i64 q]] W (BoolPost W true) from by have h9 := implValidTreeX_c (TA.out W hW).1 (TA.out W hW).2; rw [hA] at h9; exact h9))
      have CVB := hid (fun (W : World) (hW : Below w2.heap.size w2 W) => (show Calls Try.prog 29 #[.agg #[.slice B1 m1 j1, .slice B2 m2 j2, .int .i64 qb]] W (BoolPost W false) from by have h9 := implValidTreeX_c (TB.out W hW).1 (TB.out W hW).2; rw [hB] at h9; exact h9))
      refine (CI.out _ HW2.out).mono ?_
      rintro e w3 ⟨v3, rs3, rfl, hs3, hr3, hb⟩
      obtain ⟨A3, n3, k3, A4, n4, k4, rfl, hn3, -⟩ := hs3.form_ hr3
      have hbx3 : Below w3.heap.size w3 (w3.alloc (.cells #[.slice A3 n3 k3, .slice A4 n4 k4, .int .i64 0] 30)) := (Below.refl _ _).alloc (Nat.le_refl _) _
      have TO := hid ((hs3.at_ hr3 fit_none).below hbx3 (Nat.le_refl _))
      have KO := hid (Blk.new w3 #[.slice A3 n3 k3, .slice A4 n4 k4, .int .i64 0] 30)
      have HW4 := hid (HW2.out.trans ((hb.trans (hbx3.mono hb.size)).mono HW2.out.size))
      have hlo : w3.heap.size ≤ (w3.alloc (.cells #[.slice A3 n3 k3, .slice A4 n4 k4, .int .i64 0] 30)).heap.size := by simp
      have HN3 := hid hn3
      clear hs3 hr3 hb hbx3 d0 d1 d2 e0 e1 e2 hn3
      go_wp2_with fail
      generalize hbo : w3.heap.size = bo at *
      generalize w3.alloc (.cells #[.slice A3 n3 k3, .slice A4 n4 k4, .int .i64 0] 30) = w4 at *
      clear hbo
      have TN := hid (fun (W : World) (hO : Below w4.heap.size w4 W) => (And.intro (TO.out.below hO hlo) (Nat.le_trans hlo hO.size)))
      have HO4 := hid (Below.refl w4.heap.size w4)
      have HWd := hid (HW4.out.drew)
      have HOd := hid (HO4.out.drew)
      refine wp_region_held_drew (S := (fun w' : World => (w'.cell? ⟨bo, 0, none⟩ = some (.slice A3 n3 k3) ∧ w'.cell? ⟨bo, 1, none⟩ = some (.slice A4 n4 k4) ∧ w'.cell? ⟨bo, 2, none⟩ = some (.int .i64 0)) ∧ (w'.cell? ⟨ba, 0, none⟩ = some (.slice A1 n1 k1) ∧ w'.cell? ⟨ba, 1, none⟩ = some (.slice A2 n2 k2) ∧ w'.cell? ⟨ba, 2, none⟩ = some (.int .i64 q)) ∧ (w'.cell? ⟨bb, 0, none⟩ = some (.slice B1 m1 j1) ∧ w'.cell? ⟨bb, 1, none⟩ = some (.slice B2 m2 j2) ∧ w'.cell? ⟨bb, 2, none⟩ = some (.int .i64 qb)))) (by kernel_rfl) ⟨⟨((KO.out.to HOd.out).2 0 _ rfl).1, ((KO.out.to HOd.out).2 1 _ rfl).1, ((KO.out.to HOd.out).2 2 _ rfl).1⟩, ⟨((KA.out.to HWd.out).2 0 _ rfl).1, ((KA.out.to HWd.out).2 1 _ rfl).1, ((KA.out.to HWd.out).2 2 _ rfl).1⟩, ⟨((KB.out.to HWd.out).2 0 _ rfl).1, ((KB.out.to HWd.out).2 1 _ rfl).1, ((KB.out.to HWd.out).2 2 _ rfl).1⟩⟩ (fun hS => ?_)
      refine wpAnyH_take (i := 0) (oi := ?oi123) (v := ?v123) ?hi123 (by kernel_rfl) ?hf123 ?hr123 ?hQ123 (Or.inl ⟨?hw123, ?hy123⟩) (by assumption) ?rest123
      case hi123 => simp only [List.getElem?_toArray, List.getElem?_cons_succ, List.getElem?_cons_zero]; rfl
      case hf123 => kernel_rfl
      case hr123 => kernel_rfl
      case hw123 => rfl
      case hy123 => (intro w hSw; (try dsimp only at hSw); go_simp; all_goals (first | done | with_reducible rfl))
      case hQ123 => exact fun _ _ _ h => h
      simp only [Act.put, List.setIfInBounds_toArray, List.set_cons_zero, List.set_cons_succ]
      refine wpAnyH_take (i := 1) (oi := ?oi124) (v := ?v124) ?hi124 (by kernel_rfl) ?hf124 ?hr124 ?hQ124 (Or.inl ⟨?hw124, ?hy124⟩) (by assumption) ?rest124
      case hi124 => simp only [List.getElem?_toArray, List.getElem?_cons_succ, List.getElem?_cons_zero]; rfl
      case hf124 => kernel_rfl
      case hr124 => kernel_rfl
      case hw124 => rfl
      case hy124 => (intro w hSw; (try dsimp only at hSw); go_simp; all_goals (first | done | with_reducible rfl))
      case hQ124 => exact fun _ _ _ h => h
      simp only [Act.put, List.setIfInBounds_toArray, List.set_cons_zero, List.set_cons_succ]
      refine wpAnyH_take (i := 2) (oi := ?oi125) (v := ?v125) ?hi125 (by kernel_rfl) ?hf125 ?hr125 ?hQ125 (Or.inl ⟨?hw125, ?hy125⟩) (by assumption) ?rest125
      case hi125 => simp only [List.getElem?_toArray, List.getElem?_cons_succ, List.getElem?_cons_zero]; rfl
      case hf125 => kernel_rfl
      case hr125 => kernel_rfl
      case hw125 => rfl
      case hy125 => (intro w hSw; (try dsimp only at hSw); go_simp; all_goals (first | done | with_reducible rfl))
      case hQ125 => exact fun _ _ _ h => h
      simp only [Act.put, List.setIfInBounds_toArray, List.set_cons_zero, List.set_cons_succ]
      refine wpAnyH_ready (rs := [3]) (by kernel_rfl) (by simp) ?_
      refine AllReadyH.cons (o := ?oi126) ?hi126 (fun K hK => ?step126) AllReadyH.nil
      case hi126 => simp only [List.getElem?_toArray, List.getElem?_cons_succ, List.getElem?_cons_zero]; rfl
      rw [if_pos (by rfl)]
      go_simp
      go_at_call 40
      refine (CS.out _ HWd.out).mono ?_
      rintro e w11 ⟨v11, rs11, rfl, hs11, hr11, hb⟩
      have HW11 := hid (HWd.out.trans (hb.mono HWd.out.size))
      have HO11 := hid (HOd.out.trans (hb.mono HOd.out.size))
      obtain ⟨P1, pn1, pk1, P2, pn2, pk2, rfl, -, -⟩ := hs11.form_ hr11
      have CQ := hid (equalTree_c (TN.out _ HO11.out).1 (hs11.at_ hr11 fit_none) (TN.out _ HO11.out).2 (Nat.le_refl _))
      clear hs11 hr11
      clear hb
      refine hK.out _ _ ⟨⟨((KO.out.to HO11.out).2 0 _ rfl).1, ((KO.out.to HO11.out).2 1 _ rfl).1, ((KO.out.to HO11.out).2 2 _ rfl).1⟩, ⟨((KA.out.to HW11.out).2 0 _ rfl).1, ((KA.out.to HW11.out).2 1 _ rfl).1, ((KA.out.to HW11.out).2 2 _ rfl).1⟩, ⟨((KB.out.to HW11.out).2 0 _ rfl).1, ((KB.out.to HW11.out).2 1 _ rfl).1, ((KB.out.to HW11.out).2 2 _ rfl).1⟩⟩ (fun hS => ?_)
      refine wpAnyH_ready (rs := [4]) (by kernel_rfl) (by simp) ?_
      refine AllReadyH.cons (o := ?oi127) ?hi127 (fun K hK => ?step127) AllReadyH.nil
      case hi127 => simp only [List.getElem?_toArray, List.getElem?_cons_succ, List.getElem?_cons_zero]; rfl
      rw [if_pos (by rfl)]
      go_simp
      go_at_call 26
      refine (CQ.out).mono ?_
      rintro e w12 ⟨rfl, hb⟩
      have HW12 := hid (HW11.out.trans (hb.mono HW11.out.size))
      have HO12 := hid (HO11.out.trans (hb.mono HO11.out.size))
      clear hb
      refine hK.out _ _ ⟨⟨((KO.out.to HO12.out).2 0 _ rfl).1, ((KO.out.to HO12.out).2 1 _ rfl).1, ((KO.out.to HO12.out).2 2 _ rfl).1⟩, ⟨((KA.out.to HW12.out).2 0 _ rfl).1, ((KA.out.to HW12.out).2 1 _ rfl).1, ((KA.out.to HW12.out).2 2 _ rfl).1⟩, ⟨((KB.out.to HW12.out).2 0 _ rfl).1, ((KB.out.to HW12.out).2 1 _ rfl).1, ((KB.out.to HW12.out).2 2 _ rfl).1⟩⟩ (fun hS => ?_)
      refine wpAnyH_take (i := 5) (oi := ?oi128) (v := ?v128) ?hi128 (by kernel_rfl) ?hf128 ?hr128 ?hQ128 (Or.inl ⟨?hw128, ?hy128⟩) (by assumption) ?rest128
      case hi128 => simp only [List.getElem?_toArray, List.getElem?_cons_succ, List.getElem?_cons_zero]; rfl
      case hf128 => kernel_rfl
      case hr128 => kernel_rfl
      case hw128 => rfl
      case hy128 => (intro w hSw; (try dsimp only at hSw); go_simp; all_goals (first | done | with_reducible rfl))
      case hQ128 => exact fun _ _ _ h => h
      simp only [Act.put, List.setIfInBounds_toArray, List.set_cons_zero, List.set_cons_succ]
      refine wpAnyH_take (i := 6) (oi := ?oi129) (v := ?v129) ?hi129 (by kernel_rfl) ?hf129 ?hr129 ?hQ129 (Or.inl ⟨?hw129, ?hy129⟩) (by assumption) ?rest129
      case hi129 => simp only [List.getElem?_toArray, List.getElem?_cons_succ, List.getElem?_cons_zero]; rfl
      case hf129 => kernel_rfl
      case hr129 => kernel_rfl
      case hw129 => rfl
      case hy129 => (intro w hSw; (try dsimp only at hSw); go_simp; all_goals (first | done | with_reducible rfl))
      case hQ129 => exact fun _ _ _ h => h
      simp only [Act.put, List.setIfInBounds_toArray, List.set_cons_zero, List.set_cons_succ]
      refine wpAnyH_take (i := 7) (oi := ?oi130) (v := ?v130) ?hi130 (by kernel_rfl) ?hf130 ?hr130 ?hQ130 (Or.inl ⟨?hw130, ?hy130⟩) (by assumption) ?rest130
      case hi130 => simp only [List.getElem?_toArray, List.getElem?_cons_succ, List.getElem?_cons_zero]; rfl
      case hf130 => kernel_rfl
      case hr130 => kernel_rfl
      case hw130 => rfl
      case hy130 => (intro w hSw; (try dsimp only at hSw); go_simp; all_goals (first | done | with_reducible rfl))
      case hQ130 => exact fun _ _ _ h => h
      simp only [Act.put, List.setIfInBounds_toArray, List.set_cons_zero, List.set_cons_succ]
      refine wpAnyH_ready (rs := [8]) (by kernel_rfl) (by simp) ?_
      refine AllReadyH.cons (o := ?oi131) ?hi131 (fun K hK => ?step131) AllReadyH.nil
      case hi131 => simp only [List.getElem?_toArray, List.getElem?_cons_succ, List.getElem?_cons_zero]; rfl
      rw [if_pos (by rfl)]
      go_simp
      go_at_call 29
      refine (CVA.out _ HW12.out).mono ?_
      rintro e w13 ⟨rfl, hb⟩
      have HW13 := hid (HW12.out.trans (hb.mono HW12.out.size))
      have HO13 := hid (HO12.out.trans (hb.mono HO12.out.size))
      clear hb
      refine hK.out _ _ ⟨⟨((KO.out.to HO13.out).2 0 _ rfl).1, ((KO.out.to HO13.out).2 1 _ rfl).1, ((KO.out.to HO13.out).2 2 _ rfl).1⟩, ⟨((KA.out.to HW13.out).2 0 _ rfl).1, ((KA.out.to HW13.out).2 1 _ rfl).1, ((KA.out.to HW13.out).2 2 _ rfl).1⟩, ⟨((KB.out.to HW13.out).2 0 _ rfl).1, ((KB.out.to HW13.out).2 1 _ rfl).1, ((KB.out.to HW13.out).2 2 _ rfl).1⟩⟩ (fun hS => ?_)
      refine wpAnyH_take (i := 9) (oi := ?oi132) (v := ?v132) ?hi132 (by kernel_rfl) ?hf132 ?hr132 ?hQ132 (Or.inl ⟨?hw132, ?hy132⟩) (by assumption) ?rest132
      case hi132 => simp only [List.getElem?_toArray, List.getElem?_cons_succ, List.getElem?_cons_zero]; rfl
      case hf132 => kernel_rfl
      case hr132 => kernel_rfl
      case hw132 => rfl
      case hy132 => (intro w hSw; (try dsimp only at hSw); go_simp; all_goals (first | done | with_reducible rfl))
      case hQ132 => exact fun _ _ _ h => h
      simp only [Act.put, List.setIfInBounds_toArray, List.set_cons_zero, List.set_cons_succ]
      refine wpAnyH_take (i := 10) (oi := ?oi133) (v := ?v133) ?hi133 (by kernel_rfl) ?hf133 ?hr133 ?hQ133 (Or.inl ⟨?hw133, ?hy133⟩) (by assumption) ?rest133
      case hi133 => simp only [List.getElem?_toArray, List.getElem?_cons_succ, List.getElem?_cons_zero]; rfl
      case hf133 => kernel_rfl
      case hr133 => kernel_rfl
      case hw133 => rfl
      case hy133 => (intro w hSw; (try dsimp only at hSw); go_simp; all_goals (first | done | with_reducible rfl))
      case hQ133 => exact fun _ _ _ h => h
      simp only [Act.put, List.setIfInBounds_toArray, List.set_cons_zero, List.set_cons_succ]
      refine wpAnyH_take (i := 11) (oi := ?oi134) (v := ?v134) ?hi134 (by kernel_rfl) ?hf134 ?hr134 ?hQ134 (Or.inl ⟨?hw134, ?hy134⟩) (by assumption) ?rest134
      case hi134 => simp only [List.getElem?_toArray, List.getElem?_cons_succ, List.getElem?_cons_zero]; rfl
      case hf134 => kernel_rfl
      case hr134 => kernel_rfl
      case hw134 => rfl
      case hy134 => (intro w hSw; (try dsimp only at hSw); go_simp; all_goals (first | done | with_reducible rfl))
      case hQ134 => exact fun _ _ _ h => h
      simp only [Act.put, List.setIfInBounds_toArray, List.set_cons_zero, List.set_cons_succ]
      refine wpAnyH_take (i := 12) (oi := ?oi135) (v := ?v135) ?hi135 (by kernel_rfl) ?hf135 ?hr135 ?hQ135 (Or.inl ⟨?hw135, ?hy135⟩) (by assumption) ?rest135
      case hi135 => simp only [List.getElem?_toArray, List.getElem?_cons_succ, List.getElem?_cons_zero]; rfl
      case hf135 => kernel_rfl
      case hr135 => kernel_rfl
      case hw135 => rfl
      case hy135 => (intro w hSw; (try dsimp only at hSw); go_simp; all_goals (first | done | with_reducible rfl))
      case hQ135 => exact fun _ _ _ h => h
      simp only [Act.put, List.setIfInBounds_toArray, List.set_cons_zero, List.set_cons_succ]
      refine wpAnyH_ready (rs := [13]) (by kernel_rfl) (by simp) ?_
      refine AllReadyH.cons (o := ?oi136) ?hi136 (fun K hK => ?step136) AllReadyH.nil
      case hi136 => simp only [List.getElem?_toArray, List.getElem?_cons_succ, List.getElem?_cons_zero]; rfl
      rw [if_pos (by rfl)]
      go_simp
      go_at_call 29
      refine (CVB.out _ HW13.out).mono ?_
      rintro e w14 ⟨rfl, hb⟩
      have HW14 := hid (HW13.out.trans (hb.mono HW13.out.size))
      have HO14 := hid (HO13.out.trans (hb.mono HO13.out.size))
      clear hb
      refine hK.out _ _ ⟨⟨((KO.out.to HO14.out).2 0 _ rfl).1, ((KO.out.to HO14.out).2 1 _ rfl).1, ((KO.out.to HO14.out).2 2 _ rfl).1⟩, ⟨((KA.out.to HW14.out).2 0 _ rfl).1, ((KA.out.to HW14.out).2 1 _ rfl).1, ((KA.out.to HW14.out).2 2 _ rfl).1⟩, ⟨((KB.out.to HW14.out).2 0 _ rfl).1, ((KB.out.to HW14.out).2 1 _ rfl).1, ((KB.out.to HW14.out).2 2 _ rfl).1⟩⟩ (fun hS => ?_)
      refine wpAnyH_take (i := 14) (oi := ?oi137) (v := ?v137) ?hi137 (by kernel_rfl) ?hf137 ?hr137 ?hQ137 (Or.inl ⟨?hw137, ?hy137⟩) (by assumption) ?rest137
      case hi137 => simp only [List.getElem?_toArray, List.getElem?_cons_succ, List.getElem?_cons_zero]; rfl
      case hf137 => kernel_rfl
      case hr137 => kernel_rfl
      case hw137 => rfl
      case hy137 => (intro w hSw; (try dsimp only at hSw); go_simp; all_goals (first | done | with_reducible rfl))
      case hQ137 => exact fun _ _ _ h => h
      simp only [Act.put, List.setIfInBounds_toArray, List.set_cons_zero, List.set_cons_succ]
      refine wpAnyH_take (i := 15) (oi := ?oi138) (v := ?v138) ?hi138 (by kernel_rfl) ?hf138 ?hr138 ?hQ138 (Or.inl ⟨?hw138, ?hy138⟩) (by assumption) ?rest138
      case hi138 => simp only [List.getElem?_toArray, List.getElem?_cons_succ, List.getElem?_cons_zero]; rfl
      case hf138 => kernel_rfl
      case hr138 => kernel_rfl
      case hw138 => rfl
      case hy138 => (intro w hSw; (try dsimp only at hSw); go_simp; all_goals (first | done | with_reducible rfl))
      case hQ138 => exact fun _ _ _ h => h
      simp only [Act.put, List.setIfInBounds_toArray, List.set_cons_zero, List.set_cons_succ]
      refine wpAnyH_done (by kernel_rfl) ?_ _
      clear hS
      go_wp2_with fail
      have HWe := hid (HW14.out.drew)
      have HOe := hid (HO14.out.drew)
      refine wp_region_held_drew (S := (fun w' : World => (w'.cell? ⟨bo, 0, none⟩ = some (.slice A3 n3 k3) ∧ w'.cell? ⟨bo, 1, none⟩ = some (.slice A4 n4 k4) ∧ w'.cell? ⟨bo, 2, none⟩ = some (.int .i64 0)) ∧ (w'.cell? ⟨ba, 0, none⟩ = some (.slice A1 n1 k1) ∧ w'.cell? ⟨ba, 1, none⟩ = some (.slice A2 n2 k2) ∧ w'.cell? ⟨ba, 2, none⟩ = some (.int .i64 q)) ∧ (w'.cell? ⟨bb, 0, none⟩ = some (.slice B1 m1 j1) ∧ w'.cell? ⟨bb, 1, none⟩ = some (.slice B2 m2 j2) ∧ w'.cell? ⟨bb, 2, none⟩ = some (.int .i64 qb)))) (by kernel_rfl) ⟨⟨((KO.out.to HOe.out).2 0 _ rfl).1, ((KO.out.to HOe.out).2 1 _ rfl).1, ((KO.out.to HOe.out).2 2 _ rfl).1⟩, ⟨((KA.out.to HWe.out).2 0 _ rfl).1, ((KA.out.to HWe.out).2 1 _ rfl).1, ((KA.out.to HWe.out).2 2 _ rfl).1⟩, ⟨((KB.out.to HWe.out).2 0 _ rfl).1, ((KB.out.to HWe.out).2 1 _ rfl).1, ((KB.out.to HWe.out).2 2 _ rfl).1⟩⟩ (fun hS => ?_)
      refine wpAnyH_take (i := 0) (oi := ?oi139) (v := ?v139) ?hi139 (by kernel_rfl) ?hf139 ?hr139 ?hQ139 (Or.inl ⟨?hw139, ?hy139⟩) (by assumption) ?rest139
      case hi139 => simp only [List.getElem?_toArray, List.getElem?_cons_succ, List.getElem?_cons_zero]; rfl
      case hf139 => kernel_rfl
      case hr139 => kernel_rfl
      case hw139 => rfl
      case hy139 => (intro w hSw; (try dsimp only at hSw); go_simp; all_goals (first | done | with_reducible rfl))
      case hQ139 => exact fun _ _ _ h => h
      simp only [Act.put, List.setIfInBounds_toArray, List.set_cons_zero, List.set_cons_succ]
      refine wpAnyH_take (i := 1) (oi := ?oi140) (v := ?v140) ?hi140 (by kernel_rfl) ?hf140 ?hr140 ?hQ140 (Or.inl ⟨?hw140, ?hy140⟩) (by assumption) ?rest140
      case hi140 => simp only [List.getElem?_toArray, List.getElem?_cons_succ, List.getElem?_cons_zero]; rfl
      case hf140 => kernel_rfl
      case hr140 => kernel_rfl
      case hw140 => rfl
      case hy140 => (intro w hSw; (try dsimp only at hSw); go_simp; all_goals (first | done | with_reducible rfl))
      case hQ140 => exact fun _ _ _ h => h
      simp only [Act.put, List.setIfInBounds_toArray, List.set_cons_zero, List.set_cons_succ]
      refine wpAnyH_take (i := 2) (oi := ?oi141) (v := ?v141) ?hi141 (by kernel_rfl) ?hf141 ?hr141 ?hQ141 (Or.inl ⟨?hw141, ?hy141⟩) (by assumption) ?rest141
      case hi141 => simp only [List.getElem?_toArray, List.getElem?_cons_succ, List.getElem?_cons_zero]; rfl
      case hf141 => kernel_rfl
      case hr141 => kernel_rfl
      case hw141 => rfl
      case hy141 => (intro w hSw; (try dsimp only at hSw); go_simp; all_goals (first | done | with_reducible rfl))
      case hQ141 => exact fun _ _ _ h => h
      simp only [Act.put, List.setIfInBounds_toArray, List.set_cons_zero, List.set_cons_succ]
      refine wpAnyH_ready (rs := [3]) (by kernel_rfl) (by simp) ?_
      refine AllReadyH.cons (o := ?oi142) ?hi142 (fun K hK => ?step142) AllReadyH.nil
      case hi142 => simp only [List.getElem?_toArray, List.getElem?_cons_succ, List.getElem?_cons_zero]; rfl
      rw [if_pos (by rfl)]
      go_simp
      go_at_call 40
      refine (CS.out _ HWe.out).mono ?_
      rintro e w21 ⟨v21, rs21, rfl, hs21, hr21, hb⟩
      have HW21 := hid (HWe.out.trans (hb.mono HWe.out.size))
      have HO21 := hid (HOe.out.trans (hb.mono HOe.out.size))
      obtain ⟨P3, pn3, pk3, P4, pn4, pk4, rfl, -, -⟩ := hs21.form_ hr21
      have CQ2 := hid (equalTree_c (TN.out _ HO21.out).1 (hs21.at_ hr21 fit_none) (TN.out _ HO21.out).2 (Nat.le_refl _))
      clear hs21 hr21
      clear hb
      refine hK.out _ _ ⟨⟨((KO.out.to HO21.out).2 0 _ rfl).1, ((KO.out.to HO21.out).2 1 _ rfl).1, ((KO.out.to HO21.out).2 2 _ rfl).1⟩, ⟨((KA.out.to HW21.out).2 0 _ rfl).1, ((KA.out.to HW21.out).2 1 _ rfl).1, ((KA.out.to HW21.out).2 2 _ rfl).1⟩, ⟨((KB.out.to HW21.out).2 0 _ rfl).1, ((KB.out.to HW21.out).2 1 _ rfl).1, ((KB.out.to HW21.out).2 2 _ rfl).1⟩⟩ (fun hS => ?_)
      refine wpAnyH_ready (rs := [4]) (by kernel_rfl) (by simp) ?_
      refine AllReadyH.cons (o := ?oi143) ?hi143 (fun K hK => ?step143) AllReadyH.nil
      case hi143 => simp only [List.getElem?_toArray, List.getElem?_cons_succ, List.getElem?_cons_zero]; rfl
      rw [if_pos (by rfl)]
      go_simp
      go_at_call 26
      refine (CQ2.out).mono ?_
      rintro e w22 ⟨rfl, hb⟩
      have HW22 := hid (HW21.out.trans (hb.mono HW21.out.size))
      have HO22 := hid (HO21.out.trans (hb.mono HO21.out.size))
      clear hb
      refine hK.out _ _ ⟨⟨((KO.out.to HO22.out).2 0 _ rfl).1, ((KO.out.to HO22.out).2 1 _ rfl).1, ((KO.out.to HO22.out).2 2 _ rfl).1⟩, ⟨((KA.out.to HW22.out).2 0 _ rfl).1, ((KA.out.to HW22.out).2 1 _ rfl).1, ((KA.out.to HW22.out).2 2 _ rfl).1⟩, ⟨((KB.out.to HW22.out).2 0 _ rfl).1, ((KB.out.to HW22.out).2 1 _ rfl).1, ((KB.out.to HW22.out).2 2 _ rfl).1⟩⟩ (fun hS => ?_)
      refine wpAnyH_take (i := 5) (oi := ?oi144) (v := ?v144) ?hi144 (by kernel_rfl) ?hf144 ?hr144 ?hQ144 (Or.inl ⟨?hw144, ?hy144⟩) (by assumption) ?rest144
      case hi144 => simp only [List.getElem?_toArray, List.getElem?_cons_succ, List.getElem?_cons_zero]; rfl
      case hf144 => kernel_rfl
      case hr144 => kernel_rfl
      case hw144 => rfl
      case hy144 => (intro w hSw; (try dsimp only at hSw); go_simp; all_goals (first | done | with_reducible rfl))
      case hQ144 => exact fun _ _ _ h => h
      simp only [Act.put, List.setIfInBounds_toArray, List.set_cons_zero, List.set_cons_succ]
      refine wpAnyH_done (by kernel_rfl) ?_ _
      clear hS
      go_wp2_with fail
      go_ret
      exact ⟨rfl, HB.out.trans (HW22.out.mono HB.out.size)⟩
    | true =>
      have hX := pat_some hA hB
      have DY : dataFit (L.map (patL Lb)) (H.map (patH Hb)) := pat_fit Lb Hb HD.out
      replace DY := hid DY
      have CI := hid (fun (W : World) (hW : Below w2.heap.size w2 W) => (show Calls Try.prog 39 #[.agg #[.slice A1 n1 k1, .slice A2 n2 k2, .int .i64 q], .agg #[.slice B1 m1 j1, .slice B2 m2 j2, .int .i64 qb]] W (TreePost W (L.map (patL Lb)) (H.map (patH Hb)) qb) from by have h9 := implPatchTree_c (TA.out W hW).1 (TA.out W hW).2 (TB.out W hW).1 (TB.out W hW).2; rw [hX] at h9; exact h9))
      have CS := hid (fun (W : World) (hW : Below w2.heap.size w2 W) => (show Calls Try.prog 40 #[.agg #[.slice A1 n1 k1, .slice A2 n2 k2, .int .i64 q], .agg #[.slice B1 m1 j1, .slice B2 m2 j2, .int .i64 qb]] W (TreePost W (L.map (patL Lb)) (H.map (patH Hb)) qb) from by have h9 := specPatchTree_c (TA.out W hW).1 (TA.out W hW).2 (TB.out W hW).1 (TB.out W hW).2; rw [hX] at h9; exact h9))
      have CVA := hid (fun (W : World) (hW : Below w2.heap.size w2 W) => (show Calls Try.prog 29 #[.agg #[.slice A1 n1 k1, .slice A2 n2 k2, .int .i64 q]] W (BoolPost W true) from by have h9 := implValidTreeX_c (TA.out W hW).1 (TA.out W hW).2; rw [hA] at h9; exact h9))
      have CVB := hid (fun (W : World) (hW : Below w2.heap.size w2 W) => (show Calls Try.prog 29 #[.agg #[.slice B1 m1 j1, .slice B2 m2 j2, .int .i64 qb]] W (BoolPost W true) from by have h9 := implValidTreeX_c (TB.out W hW).1 (TB.out W hW).2; rw [hB] at h9; exact h9))
      refine (CI.out _ HW2.out).mono ?_
      rintro e w3 ⟨v3, rs3, rfl, hs3, hr3, hb⟩
      obtain ⟨A3, n3, k3, A4, n4, k4, rfl, hn3, -⟩ := hs3.form_ hr3
      have hbx3 : Below w3.heap.size w3 (w3.alloc (.cells #[.slice A3 n3 k3, .slice A4 n4 k4, .int .i64 qb] 30)) := (Below.refl _ _).alloc (Nat.le_refl _) _
      have TO := hid ((hs3.at_ hr3 DY.out).below hbx3 (Nat.le_refl _))
      have KO := hid (Blk.new w3 #[.slice A3 n3 k3, .slice A4 n4 k4, .int .i64 qb] 30)
      have HW4 := hid (HW2.out.trans ((hb.trans (hbx3.mono hb.size)).mono HW2.out.size))
      have hlo : w3.heap.size ≤ (w3.alloc (.cells #[.slice A3 n3 k3, .slice A4 n4 k4, .int .i64 qb] 30)).heap.size := by simp
      have HN3 := hid hn3
      clear hs3 hr3 hb hbx3 d0 d1 d2 e0 e1 e2 hn3
      go_wp2_with fail
      generalize hbo : w3.heap.size = bo at *
      generalize w3.alloc (.cells #[.slice A3 n3 k3, .slice A4 n4 k4, .int .i64 qb] 30) = w4 at *
      clear hbo
      have TN := hid (fun (W : World) (hO : Below w4.heap.size w4 W) => (And.intro (TO.out.below hO hlo) (Nat.le_trans hlo hO.size)))
      have HO4 := hid (Below.refl w4.heap.size w4)
      have HWd := hid (HW4.out.drew)
      have HOd := hid (HO4.out.drew)
      refine wp_region_held_drew (S := (fun w' : World => (w'.cell? ⟨bo, 0, none⟩ = some (.slice A3 n3 k3) ∧ w'.cell? ⟨bo, 1, none⟩ = some (.slice A4 n4 k4) ∧ w'.cell? ⟨bo, 2, none⟩ = some (.int .i64 qb)) ∧ (w'.cell? ⟨ba, 0, none⟩ = some (.slice A1 n1 k1) ∧ w'.cell? ⟨ba, 1, none⟩ = some (.slice A2 n2 k2) ∧ w'.cell? ⟨ba, 2, none⟩ = some (.int .i64 q)) ∧ (w'.cell? ⟨bb, 0, none⟩ = some (.slice B1 m1 j1) ∧ w'.cell? ⟨bb, 1, none⟩ = some (.slice B2 m2 j2) ∧ w'.cell? ⟨bb, 2, none⟩ = some (.int .i64 qb)))) (by kernel_rfl) ⟨⟨((KO.out.to HOd.out).2 0 _ rfl).1, ((KO.out.to HOd.out).2 1 _ rfl).1, ((KO.out.to HOd.out).2 2 _ rfl).1⟩, ⟨((KA.out.to HWd.out).2 0 _ rfl).1, ((KA.out.to HWd.out).2 1 _ rfl).1, ((KA.out.to HWd.out).2 2 _ rfl).1⟩, ⟨((KB.out.to HWd.out).2 0 _ rfl).1, ((KB.out.to HWd.out).2 1 _ rfl).1, ((KB.out.to HWd.out).2 2 _ rfl).1⟩⟩ (fun hS => ?_)
      refine wpAnyH_take (i := 0) (oi := ?oi145) (v := ?v145) ?hi145 (by kernel_rfl) ?hf145 ?hr145 ?hQ145 (Or.inl ⟨?hw145, ?hy145⟩) (by assumption) ?rest145
      case hi145 => simp only [List.getElem?_toArray, List.getElem?_cons_succ, List.getElem?_cons_zero]; rfl
      case hf145 => kernel_rfl
      case hr145 => kernel_rfl
      case hw145 => rfl
      case hy145 => (intro w hSw; (try dsimp only at hSw); go_simp; all_goals (first | done | with_reducible rfl))
      case hQ145 => exact fun _ _ _ h => h
      simp only [Act.put, List.setIfInBounds_toArray, List.set_cons_zero, List.set_cons_succ]
      refine wpAnyH_take (i := 1) (oi := ?oi146) (v := ?v146) ?hi146 (by kernel_rfl) ?hf146 ?hr146 ?hQ146 (Or.inl ⟨?hw146, ?hy146⟩) (by assumption) ?rest146
      case hi146 => simp only [List.getElem?_toArray, List.getElem?_cons_succ, List.getElem?_cons_zero]; rfl
      case hf146 => kernel_rfl
      case hr146 => kernel_rfl
      case hw146 => rfl
      case hy146 => (intro w hSw; (try dsimp only at hSw); go_simp; all_goals (first | done | with_reducible rfl))
      case hQ146 => exact fun _ _ _ h => h
      simp only [Act.put, List.setIfInBounds_toArray, List.set_cons_zero, List.set_cons_succ]
      refine wpAnyH_take (i := 2) (oi := ?oi147) (v := ?v147) ?hi147 (by kernel_rfl) ?hf147 ?hr147 ?hQ147 (Or.inl ⟨?hw147, ?hy147⟩) (by assumption) ?rest147
      case hi147 => simp only [List.getElem?_toArray, List.getElem?_cons_succ, List.getElem?_cons_zero]; rfl
      case hf147 => kernel_rfl
      case hr147 => kernel_rfl
      case hw147 => rfl
      case hy147 => (intro w hSw; (try dsimp only at hSw); go_simp; all_goals (first | done | with_reducible rfl))
      case hQ147 => exact fun _ _ _ h => h
      simp only [Act.put, List.setIfInBounds_toArray, List.set_cons_zero, List.set_cons_succ]
      refine wpAnyH_ready (rs := [3]) (by kernel_rfl) (by simp) ?_
      refine AllReadyH.cons (o := ?oi148) ?hi148 (fun K hK => ?step148) AllReadyH.nil
      case hi148 => simp only [List.getElem?_toArray, List.getElem?_cons_succ, List.getElem?_cons_zero]; rfl
      rw [if_pos (by rfl)]
      go_simp
      go_at_call 40
      refine (CS.out _ HWd.out).mono ?_
      rintro e w11 ⟨v11, rs11, rfl, hs11, hr11, hb⟩
      have HW11 := hid (HWd.out.trans (hb.mono HWd.out.size))
      have HO11 := hid (HOd.out.trans (hb.mono HOd.out.size))
      obtain ⟨P1, pn1, pk1, P2, pn2, pk2, rfl, -, -⟩ := hs11.form_ hr11
      have CQ := hid (equalTree_c (TN.out _ HO11.out).1 (hs11.at_ hr11 DY.out) (TN.out _ HO11.out).2 (Nat.le_refl _))
      clear hs11 hr11
      clear hb
      refine hK.out _ _ ⟨⟨((KO.out.to HO11.out).2 0 _ rfl).1, ((KO.out.to HO11.out).2 1 _ rfl).1, ((KO.out.to HO11.out).2 2 _ rfl).1⟩, ⟨((KA.out.to HW11.out).2 0 _ rfl).1, ((KA.out.to HW11.out).2 1 _ rfl).1, ((KA.out.to HW11.out).2 2 _ rfl).1⟩, ⟨((KB.out.to HW11.out).2 0 _ rfl).1, ((KB.out.to HW11.out).2 1 _ rfl).1, ((KB.out.to HW11.out).2 2 _ rfl).1⟩⟩ (fun hS => ?_)
      refine wpAnyH_ready (rs := [4]) (by kernel_rfl) (by simp) ?_
      refine AllReadyH.cons (o := ?oi149) ?hi149 (fun K hK => ?step149) AllReadyH.nil
      case hi149 => simp only [List.getElem?_toArray, List.getElem?_cons_succ, List.getElem?_cons_zero]; rfl
      rw [if_pos (by rfl)]
      go_simp
      go_at_call 26
      refine (CQ.out).mono ?_
      rintro e w12 ⟨rfl, hb⟩
      have HW12 := hid (HW11.out.trans (hb.mono HW11.out.size))
      have HO12 := hid (HO11.out.trans (hb.mono HO11.out.size))
      clear hb
      refine hK.out _ _ ⟨⟨((KO.out.to HO12.out).2 0 _ rfl).1, ((KO.out.to HO12.out).2 1 _ rfl).1, ((KO.out.to HO12.out).2 2 _ rfl).1⟩, ⟨((KA.out.to HW12.out).2 0 _ rfl).1, ((KA.out.to HW12.out).2 1 _ rfl).1, ((KA.out.to HW12.out).2 2 _ rfl).1⟩, ⟨((KB.out.to HW12.out).2 0 _ rfl).1, ((KB.out.to HW12.out).2 1 _ rfl).1, ((KB.out.to HW12.out).2 2 _ rfl).1⟩⟩ (fun hS => ?_)
      refine wpAnyH_take (i := 5) (oi := ?oi150) (v := ?v150) ?hi150 (by kernel_rfl) ?hf150 ?hr150 ?hQ150 (Or.inl ⟨?hw150, ?hy150⟩) (by assumption) ?rest150
      case hi150 => simp only [List.getElem?_toArray, List.getElem?_cons_succ, List.getElem?_cons_zero]; rfl
      case hf150 => kernel_rfl
      case hr150 => kernel_rfl
      case hw150 => rfl
      case hy150 => (intro w hSw; (try dsimp only at hSw); go_simp; all_goals (first | done | with_reducible rfl))
      case hQ150 => exact fun _ _ _ h => h
      simp only [Act.put, List.setIfInBounds_toArray, List.set_cons_zero, List.set_cons_succ]
      refine wpAnyH_take (i := 6) (oi := ?oi151) (v := ?v151) ?hi151 (by kernel_rfl) ?hf151 ?hr151 ?hQ151 (Or.inl ⟨?hw151, ?hy151⟩) (by assumption) ?rest151
      case hi151 => simp only [List.getElem?_toArray, List.getElem?_cons_succ, List.getElem?_cons_zero]; rfl
      case hf151 => kernel_rfl
      case hr151 => kernel_rfl
      case hw151 => rfl
      case hy151 => (intro w hSw; (try dsimp only at hSw); go_simp; all_goals (first | done | with_reducible rfl))
      case hQ151 => exact fun _ _ _ h => h
      simp only [Act.put, List.setIfInBounds_toArray, List.set_cons_zero, List.set_cons_succ]
      refine wpAnyH_take (i := 7) (oi := ?oi152) (v := ?v152) ?hi152 (by kernel_rfl) ?hf152 ?hr152 ?hQ152 (Or.inl ⟨?hw152, ?hy152⟩) (by assumption) ?rest152
      case hi152 => simp only [List.getElem?_toArray, List.getElem?_cons_succ, List.getElem?_cons_zero]; rfl
      case hf152 => kernel_rfl
      case hr152 => kernel_rfl
      case hw152 => rfl
      case hy152 => (intro w hSw; (try dsimp only at hSw); go_simp; all_goals (first | done | with_reducible rfl))
      case hQ152 => exact fun _ _ _ h => h
      simp only [Act.put, List.setIfInBounds_toArray, List.set_cons_zero, List.set_cons_succ]
      refine wpAnyH_ready (rs := [8]) (by kernel_rfl) (by simp) ?_
      refine AllReadyH.cons (o := ?oi153) ?hi153 (fun K hK => ?step153) AllReadyH.nil
      case hi153 => simp only [List.getElem?_toArray, List.getElem?_cons_succ, List.getElem?_cons_zero]; rfl
      rw [if_pos (by rfl)]
      go_simp
      go_at_call 29
      refine (CVA.out _ HW12.out).mono ?_
      rintro e w13 ⟨rfl, hb⟩
      have HW13 := hid (HW12.out.trans (hb.mono HW12.out.size))
      have HO13 := hid (HO12.out.trans (hb.mono HO12.out.size))
      clear hb
      refine hK.out _ _ ⟨⟨((KO.out.to HO13.out).2 0 _ rfl).1, ((KO.out.to HO13.out).2 1 _ rfl).1, ((KO.out.to HO13.out).2 2 _ rfl).1⟩, ⟨((KA.out.to HW13.out).2 0 _ rfl).1, ((KA.out.to HW13.out).2 1 _ rfl).1, ((KA.out.to HW13.out).2 2 _ rfl).1⟩, ⟨((KB.out.to HW13.out).2 0 _ rfl).1, ((KB.out.to HW13.out).2 1 _ rfl).1, ((KB.out.to HW13.out).2 2 _ rfl).1⟩⟩ (fun hS => ?_)
      refine wpAnyH_take (i := 9) (oi := ?oi154) (v := ?v154) ?hi154 (by kernel_rfl) ?hf154 ?hr154 ?hQ154 (Or.inl ⟨?hw154, ?hy154⟩) (by assumption) ?rest154
      case hi154 => simp only [List.getElem?_toArray, List.getElem?_cons_succ, List.getElem?_cons_zero]; rfl
      case hf154 => kernel_rfl
      case hr154 => kernel_rfl
      case hw154 => rfl
      case hy154 => (intro w hSw; (try dsimp only at hSw); go_simp; all_goals (first | done | with_reducible rfl))
      case hQ154 => exact fun _ _ _ h => h
      simp only [Act.put, List.setIfInBounds_toArray, List.set_cons_zero, List.set_cons_succ]
      refine wpAnyH_take (i := 10) (oi := ?oi155) (v := ?v155) ?hi155 (by kernel_rfl) ?hf155 ?hr155 ?hQ155 (Or.inl ⟨?hw155, ?hy155⟩) (by assumption) ?rest155
      case hi155 => simp only [List.getElem?_toArray, List.getElem?_cons_succ, List.getElem?_cons_zero]; rfl
      case hf155 => kernel_rfl
      case hr155 => kernel_rfl
      case hw155 => rfl
      case hy155 => (intro w hSw; (try dsimp only at hSw); go_simp; all_goals (first | done | with_reducible rfl))
      case hQ155 => exact fun _ _ _ h => h
      simp only [Act.put, List.setIfInBounds_toArray, List.set_cons_zero, List.set_cons_succ]
      refine wpAnyH_take (i := 11) (oi := ?oi156) (v := ?v156) ?hi156 (by kernel_rfl) ?hf156 ?hr156 ?hQ156 (Or.inl ⟨?hw156, ?hy156⟩) (by assumption) ?rest156
      case hi156 => simp only [List.getElem?_toArray, List.getElem?_cons_succ, List.getElem?_cons_zero]; rfl
      case hf156 => kernel_rfl
      case hr156 => kernel_rfl
      case hw156 => rfl
      case hy156 => (intro w hSw; (try dsimp only at hSw); go_simp; all_goals (first | done | with_reducible rfl))
      case hQ156 => exact fun _ _ _ h => h
      simp only [Act.put, List.setIfInBounds_toArray, List.set_cons_zero, List.set_cons_succ]
      refine wpAnyH_take (i := 12) (oi := ?oi157) (v := ?v157) ?hi157 (by kernel_rfl) ?hf157 ?hr157 ?hQ157 (Or.inl ⟨?hw157, ?hy157⟩) (by assumption) ?rest157
      case hi157 => simp only [List.getElem?_toArray, List.getElem?_cons_succ, List.getElem?_cons_zero]; rfl
      case hf157 => kernel_rfl
      case hr157 => kernel_rfl
      case hw157 => rfl
      case hy157 => (intro w hSw; (try dsimp only at hSw); go_simp; all_goals (first | done | with_reducible rfl))
      case hQ157 => exact fun _ _ _ h => h
      simp only [Act.put, List.setIfInBounds_toArray, List.set_cons_zero, List.set_cons_succ]
      refine wpAnyH_ready (rs := [13]) (by kernel_rfl) (by simp) ?_
      refine AllReadyH.cons (o := ?oi158) ?hi158 (fun K hK => ?step158) AllReadyH.nil
      case hi158 => simp only [List.getElem?_toArray, List.getElem?_cons_succ, List.getElem?_cons_zero]; rfl
      rw [if_pos (by rfl)]
      go_simp
      go_at_call 29
      refine (CVB.out _ HW13.out).mono ?_
      rintro e w14 ⟨rfl, hb⟩
      have HW14 := hid (HW13.out.trans (hb.mono HW13.out.size))
      have HO14 := hid (HO13.out.trans (hb.mono HO13.out.size))
      clear hb
      refine hK.out _ _ ⟨⟨((KO.out.to HO14.out).2 0 _ rfl).1, ((KO.out.to HO14.out).2 1 _ rfl).1, ((KO.out.to HO14.out).2 2 _ rfl).1⟩, ⟨((KA.out.to HW14.out).2 0 _ rfl).1, ((KA.out.to HW14.out).2 1 _ rfl).1, ((KA.out.to HW14.out).2 2 _ rfl).1⟩, ⟨((KB.out.to HW14.out).2 0 _ rfl).1, ((KB.out.to HW14.out).2 1 _ rfl).1, ((KB.out.to HW14.out).2 2 _ rfl).1⟩⟩ (fun hS => ?_)
      refine wpAnyH_take (i := 14) (oi := ?oi159) (v := ?v159) ?hi159 (by kernel_rfl) ?hf159 ?hr159 ?hQ159 (Or.inl ⟨?hw159, ?hy159⟩) (by assumption) ?rest159
      case hi159 => simp only [List.getElem?_toArray, List.getElem?_cons_succ, List.getElem?_cons_zero]; rfl
      case hf159 => kernel_rfl
      case hr159 => kernel_rfl
      case hw159 => rfl
      case hy159 => (intro w hSw; (try dsimp only at hSw); go_simp; all_goals (first | done | with_reducible rfl))
      case hQ159 => exact fun _ _ _ h => h
      simp only [Act.put, List.setIfInBounds_toArray, List.set_cons_zero, List.set_cons_succ]
      refine wpAnyH_take (i := 15) (oi := ?oi160) (v := ?v160) ?hi160 (by kernel_rfl) ?hf160 ?hr160 ?hQ160 (Or.inl ⟨?hw160, ?hy160⟩) (by assumption) ?rest160
      case hi160 => simp only [List.getElem?_toArray, List.getElem?_cons_succ, List.getElem?_cons_zero]; rfl
      case hf160 => kernel_rfl
      case hr160 => kernel_rfl
      case hw160 => rfl
      case hy160 => (intro w hSw; (try dsimp only at hSw); go_simp; all_goals (first | done | with_reducible rfl))
      case hQ160 => exact fun _ _ _ h => h
      simp only [Act.put, List.setIfInBounds_toArray, List.set_cons_zero, List.set_cons_succ]
      refine wpAnyH_done (by kernel_rfl) ?_ _
      clear hS
      have hlL : (L.map (patL Lb)).length = L.length := List.length_map _
      have FPL := hid (fun (k i : Nat) (x : Name) (hk : k < L.length) (hx : x = (nsOf (L.map (patL Lb))).getD k []) (hi : idxL (namesOf Lb) x = (i : Int)) => pat_level (L := L) (Lb := Lb) hk hx hi)
      have hPN := pat_names L Lb
      have hL8 := HL.out.2.2.1.2.1.1
      have hLb8 := HL.out.2.2.2.2.1.1
      have hn3L : n3 = L.length := by rw [← hlL]; exact HN3.out
      have hn38 : n3 ≤ 8 := by omega
      have hm18 : m1 ≤ 8 := by rw [HL.out.2.1]; exact hLb8
      have CLB := hid (fun (s : ByteArray) (W : World) (hW : Below w2.heap.size w2 W) => (show Calls Try.prog 28 #[.agg #[.slice B1 m1 j1, .slice B2 m2 j2, .int .i64 qb], .string s] W (fun e w' => e = .returned (.int .i64 (idxL (namesOf Lb) s.data.toList)) ∧ Below W.heap.size W w') from by have h9 := implLoggerAtX_c s (TB.out W hW).1 (TB.out W hW).2; rw [hB, if_pos rfl] at h9; exact h9))
      have CPT := hid (fun (W : World) (hW : Below w2.heap.size w2 W) (hO : Below w4.heap.size w4 W) => (show Calls Try.prog 39 #[.agg #[.slice A3 n3 k3, .slice A4 n4 k4, .int .i64 qb], .agg #[.slice B1 m1 j1, .slice B2 m2 j2, .int .i64 qb]] W (TreePost W (L.map (patL Lb)) (H.map (patH Hb)) qb) from by have h9 := implPatchTree_c (TN.out W hO).1 (TN.out W hO).2 (TB.out W hW).1 (TB.out W hW).2; rw [pat_twice hA hB] at h9; exact h9))
      have CPS := hid (fun (W : World) (hW : Below w2.heap.size w2 W) => (show Calls Try.prog 39 #[.agg #[.slice A1 n1 k1, .slice A2 n2 k2, .int .i64 q], .agg #[.slice A1 n1 k1, .slice A2 n2 k2, .int .i64 q]] W (TreePost W L H q) from by have h9 := implPatchTree_c (TA.out W hW).1 (TA.out W hW).2 (TA.out W hW).1 (TA.out W hW).2; rw [pat_self hA] at h9; exact h9))
      have CN1 := fun (W : World) (hO : Below w4.heap.size w4 W) => lawNames_c (TN.out W hO).1 (TN.out W hO).2 (by rw [hlL]; exact hL8)
      simp only [hPN] at CN1
      replace CN1 := hid CN1
      have CN2 := hid (fun (W : World) (hW : Below w2.heap.size w2 W) => lawNames_c (TA.out W hW).1 (TA.out W hW).2 hL8)
      have HNL := hid hn3L
      generalize L.map (patL Lb) = Lw at *
      generalize H.map (patH Hb) = Hw at *
      generalize nsOf L = NS at *
      have o0 := ((KO.out.to HO14.out).2 0 _ rfl).1
      clear hlL hPN hn3L hX hA hB hL8 hLb8
      go_wp2_with fail
      clear o0
      go_loopw [6] (fun kv wr => ∃ k : Nat, kv = .int .i64 k ∧ k ≤ n3 ∧ Hid (Below w2.heap.size w2 wr) ∧ Hid (Below w4.heap.size w4 wr)) (fun kv _ => n3 - (intOf kv).toNat)
      case atStart => exact ⟨0, rfl, Nat.zero_le _, HW14.out, HO14.out⟩
      case round =>
        obtain ⟨k, rfl, hk, HWr, HOr⟩ := hrel
        have o0 := ((KO.out.to HOr.out).2 0 _ rfl).1
        by_cases hkn : k < n3
        · obtain ⟨b, o, p, A9, hn9, k9, A10, fn9, k10, rfl, hpn, -, -, -, -, g0, g1, -, -, g4, -⟩ := (TN.out _ HOr.out).1.lgr hkn
          have HF := hid (fun (i : Nat) (hi : idxL (namesOf Lb) p.data.toList = (i : Int)) => FPL.out k i p.data.toList (by have := HNL.out; omega) hpn hi)
          have CC := hid (CLB.out p)
          have HWd2 := hid (HWr.out.drew)
          have HOd2 := hid (HOr.out.drew)
          have s0 : (0 : Int) ≤ (k : Int) := by omega
          have s1 : (k : Int) < (n3 : Int) := by omega
          have s2 : ((k : Int)).toNat = k := by simp
          have HG := hid (And.intro g0 (And.intro g1 g4))
          have y0 := ((KB.out.to HWr.out).2 0 _ rfl).1
          have y1 := ((KB.out.to HWr.out).2 1 _ rfl).1
          have y2 := ((KB.out.to HWr.out).2 2 _ rfl).1
          clear hpn g1 g4
          go_wp2_with fail
          refine wp_region_held_drew (S := (fun w' : World => w'.cell? ⟨bo, 0, none⟩ = some (.slice (some ⟨b, o, none⟩) n3 k3) ∧ (w'.cell? ⟨bb, 0, none⟩ = some (.slice B1 m1 j1) ∧ w'.cell? ⟨bb, 1, none⟩ = some (.slice B2 m2 j2) ∧ w'.cell? ⟨bb, 2, none⟩ = some (.int .i64 qb)) ∧ w'.cell? ⟨b, o + k * 6, none⟩ = some (.string p))) (by kernel_rfl) ⟨o0, ⟨y0, y1, y2⟩, g0⟩ (fun hS => ?_)
          refine wpAnyH_take (i := 0) (oi := ?oi161) (v := ?v161) ?hi161 (by kernel_rfl) ?hf161 ?hr161 ?hQ161 (Or.inl ⟨?hw161, ?hy161⟩) (by assumption) ?rest161
          case hi161 => simp only [List.getElem?_toArray, List.getElem?_cons_succ, List.getElem?_cons_zero]; rfl
          case hf161 => kernel_rfl
          case hr161 => kernel_rfl
          case hw161 => rfl
          case hy161 => (intro w hSw; (try dsimp only at hSw); go_simp; all_goals (first | done | with_reducible rfl))
          case hQ161 => exact fun _ _ _ h => h
          simp only [Act.put, List.setIfInBounds_toArray, List.set_cons_zero, List.set_cons_succ]
          refine wpAnyH_take (i := 1) (oi := ?oi162) (v := ?v162) ?hi162 (by kernel_rfl) ?hf162 ?hr162 ?hQ162 (Or.inl ⟨?hw162, ?hy162⟩) (by assumption) ?rest162
          case hi162 => simp only [List.getElem?_toArray, List.getElem?_cons_succ, List.getElem?_cons_zero]; rfl
          case hf162 => kernel_rfl
          case hr162 => kernel_rfl
          case hw162 => rfl
          case hy162 => (intro w hSw; (try dsimp only at hSw); go_simp; all_goals (first | done | with_reducible rfl))
          case hQ162 => exact fun _ _ _ h => h
          simp only [Act.put, List.setIfInBounds_toArray, List.set_cons_zero, List.set_cons_succ]
          refine wpAnyH_take (i := 2) (oi := ?oi163) (v := ?v163) ?hi163 (by kernel_rfl) ?hf163 ?hr163 ?hQ163 (Or.inl ⟨?hw163, ?hy163⟩) (by assumption) ?rest163
          case hi163 => simp only [List.getElem?_toArray, List.getElem?_cons_succ, List.getElem?_cons_zero]; rfl
          case hf163 => kernel_rfl
          case hr163 => kernel_rfl
          case hw163 => rfl
          case hy163 => (intro w hSw; (try dsimp only at hSw); go_simp; all_goals (first | done | with_reducible rfl))
          case hQ163 => exact fun _ _ _ h => h
          simp only [Act.put, List.setIfInBounds_toArray, List.set_cons_zero, List.set_cons_succ]
          refine wpAnyH_take (i := 3) (oi := ?oi164) (v := ?v164) ?hi164 (by kernel_rfl) ?hf164 ?hr164 ?hQ164 (Or.inl ⟨?hw164, ?hy164⟩) (by assumption) ?rest164
          case hi164 => simp only [List.getElem?_toArray, List.getElem?_cons_succ, List.getElem?_cons_zero]; rfl
          case hf164 => kernel_rfl
          case hr164 => kernel_rfl
          case hw164 => rfl
          case hy164 => (intro w hSw; (try dsimp only at hSw); go_simp; all_goals (first | done | with_reducible rfl))
          case hQ164 => exact fun _ _ _ h => h
          simp only [Act.put, List.setIfInBounds_toArray, List.set_cons_zero, List.set_cons_succ]
          refine wpAnyH_take (i := 4) (oi := ?oi165) (v := ?v165) ?hi165 (by kernel_rfl) ?hf165 ?hr165 ?hQ165 (Or.inl ⟨?hw165, ?hy165⟩) (by assumption) ?rest165
          case hi165 => simp only [List.getElem?_toArray, List.getElem?_cons_succ, List.getElem?_cons_zero]; rfl
          case hf165 => kernel_rfl
          case hr165 => kernel_rfl
          case hw165 => rfl
          case hy165 => (intro w hSw; (try dsimp only at hSw); go_simp; all_goals (first | done | with_reducible rfl))
          case hQ165 => exact fun _ _ _ h => h
          simp only [Act.put, List.setIfInBounds_toArray, List.set_cons_zero, List.set_cons_succ]
          refine wpAnyH_take (i := 5) (oi := ?oi166) (v := ?v166) ?hi166 (by kernel_rfl) ?hf166 ?hr166 ?hQ166 (Or.inl ⟨?hw166, ?hy166⟩) (by assumption) ?rest166
          case hi166 => simp only [List.getElem?_toArray, List.getElem?_cons_succ, List.getElem?_cons_zero]; rfl
          case hf166 => kernel_rfl
          case hr166 => kernel_rfl
          case hw166 => rfl
          case hy166 => (intro w hSw; (try dsimp only at hSw); go_simp; all_goals (first | done | with_reducible rfl))
          case hQ166 => exact fun _ _ _ h => h
          simp only [Act.put, List.setIfInBounds_toArray, List.set_cons_zero, List.set_cons_succ]
          refine wpAnyH_take (i := 6) (oi := ?oi167) (v := ?v167) ?hi167 (by kernel_rfl) ?hf167 ?hr167 ?hQ167 (Or.inl ⟨?hw167, ?hy167⟩) (by assumption) ?rest167
          case hi167 => simp only [List.getElem?_toArray, List.getElem?_cons_succ, List.getElem?_cons_zero]; rfl
          case hf167 => kernel_rfl
          case hr167 => kernel_rfl
          case hw167 => rfl
          case hy167 => (intro w hSw; (try dsimp only at hSw); go_simp; all_goals (first | done | with_reducible rfl))
          case hQ167 => exact fun _ _ _ h => h
          simp only [Act.put, List.setIfInBounds_toArray, List.set_cons_zero, List.set_cons_succ]
          refine wpAnyH_ready (rs := [7]) (by kernel_rfl) (by simp) ?_
          refine AllReadyH.cons (o := ?oi168) ?hi168 (fun K hK => ?step168) AllReadyH.nil
          case hi168 => simp only [List.getElem?_toArray, List.getElem?_cons_succ, List.getElem?_cons_zero]; rfl
          rw [if_pos (by rfl)]
          go_simp
          go_at_call 28
          refine (CC.out _ HWd2.out).mono ?_
          rintro e w15 ⟨rfl, hb⟩
          have HW15 := hid (HWd2.out.trans (hb.mono HWd2.out.size))
          have HO15 := hid (HOd2.out.trans (hb.mono HOd2.out.size))
          have HGc := hid (fun (a : Addr) (v : Value) (h : wr.cell? a = some v) => (hb.cell (p := a) (World.block_lt_of_cell? _ _ h)).trans h)
          have x0 := ((KO.out.to HO15.out).2 0 _ rfl).1
          have z0 := ((KB.out.to HW15.out).2 0 _ rfl).1
          have z1 := ((KB.out.to HW15.out).2 1 _ rfl).1
          have z2 := ((KB.out.to HW15.out).2 2 _ rfl).1
          have h0 := HGc.out _ _ HG.out.1
          refine hK.out _ _ ⟨x0, ⟨z0, z1, z2⟩, h0⟩ (fun hS => ?_)
          refine wpAnyH_take (i := 8) (oi := ?oi169) (v := ?v169) ?hi169 (by kernel_rfl) ?hf169 ?hr169 ?hQ169 (Or.inl ⟨?hw169, ?hy169⟩) (by assumption) ?rest169
          case hi169 => simp only [List.getElem?_toArray, List.getElem?_cons_succ, List.getElem?_cons_zero]; rfl
          case hf169 => kernel_rfl
          case hr169 => kernel_rfl
          case hw169 => rfl
          case hy169 => (intro w hSw; (try dsimp only at hSw); go_simp; all_goals (first | done | with_reducible rfl))
          case hQ169 => exact fun _ _ _ h => h
          simp only [Act.put, List.setIfInBounds_toArray, List.set_cons_zero, List.set_cons_succ]
          refine wpAnyH_done (by kernel_rfl) ?_ _
          clear hS hb o0 y0 y1 y2 g0 z1 z2
          have HIX := hid (fun (i : Nat) (h : idxL (namesOf Lb) p.data.toList = (i : Int)) => (show i < m1 from by have h9 := (idx_nat h).1; unfold namesOf at h9; rw [List.length_map] at h9; rw [HL.out.2.1]; exact h9))
          generalize idxL (namesOf Lb) p.data.toList = ii at *
          by_cases hneg : ii < 0
          · have hz : ¬ (0 ≤ ii) := by omega
            have hzd : decide (0 ≤ ii) = false := by simpa using hneg
            clear hneg
            go_wp2_with fail
            refine wp_region_held_drew (S := (fun _ : World => True)) (by kernel_rfl) trivial (fun hS => ?_)
            refine wpAnyH_take (i := 0) (oi := ?oi170) (v := ?v170) ?hi170 (by kernel_rfl) ?hf170 ?hr170 ?hQ170 (Or.inl ⟨?hw170, ?hy170⟩) (by assumption) ?rest170
            case hi170 => simp only [List.getElem?_toArray, List.getElem?_cons_succ, List.getElem?_cons_zero]; rfl
            case hf170 => kernel_rfl
            case hr170 => kernel_rfl
            case hw170 => rfl
            case hy170 => (intro w hSw; (try dsimp only at hSw); go_simp; all_goals (first | done | with_reducible rfl))
            case hQ170 => exact fun _ _ _ h => h
            simp only [Act.put, List.setIfInBounds_toArray, List.set_cons_zero, List.set_cons_succ]
            refine wpAnyH_take (i := 1) (oi := ?oi171) (v := ?v171) ?hi171 (by kernel_rfl) ?hf171 ?hr171 ?hQ171 (Or.inl ⟨?hw171, ?hy171⟩) (by assumption) ?rest171
            case hi171 => simp only [List.getElem?_toArray, List.getElem?_cons_succ, List.getElem?_cons_zero]; rfl
            case hf171 => kernel_rfl
            case hr171 => kernel_rfl
            case hw171 => rfl
            case hy171 => (intro w hSw; (try dsimp only at hSw); go_simp; all_goals (first | done | with_reducible rfl))
            case hQ171 => exact fun _ _ _ h => h
            simp only [Act.put, List.setIfInBounds_toArray, List.set_cons_zero, List.set_cons_succ]
            refine wpAnyH_take (i := 2) (oi := ?oi172) (v := ?v172) ?hi172 (by kernel_rfl) ?hf172 ?hr172 ?hQ172 (Or.inl ⟨?hw172, ?hy172⟩) (by assumption) ?rest172
            case hi172 => simp only [List.getElem?_toArray, List.getElem?_cons_succ, List.getElem?_cons_zero]; rfl
            case hf172 => kernel_rfl
            case hr172 => kernel_rfl
            case hw172 => rfl
            case hy172 => (intro w hSw; (try dsimp only at hSw); go_simp; all_goals (first | done | with_reducible rfl))
            case hQ172 => exact fun _ _ _ h => h
            simp only [Act.put, List.setIfInBounds_toArray, List.set_cons_zero, List.set_cons_succ]
            refine wpAnyH_take (i := 3) (oi := ?oi173) (v := undef) ?hi173 (by kernel_rfl) ?hf173 ?hr173 ?hQ173 (Or.inr ⟨?hw173, rfl⟩) (by assumption) ?rest173
            case hi173 => simp only [List.getElem?_toArray, List.getElem?_cons_succ, List.getElem?_cons_zero]; rfl
            case hf173 => kernel_rfl
            case hr173 => kernel_rfl
            case hw173 => rfl
            case hQ173 => exact fun _ _ _ h => h
            simp only [Act.put, List.setIfInBounds_toArray, List.set_cons_zero, List.set_cons_succ]
            refine wpAnyH_take (i := 4) (oi := ?oi174) (v := undef) ?hi174 (by kernel_rfl) ?hf174 ?hr174 ?hQ174 (Or.inr ⟨?hw174, rfl⟩) (by assumption) ?rest174
            case hi174 => simp only [List.getElem?_toArray, List.getElem?_cons_succ, List.getElem?_cons_zero]; rfl
            case hf174 => kernel_rfl
            case hr174 => kernel_rfl
            case hw174 => rfl
            case hQ174 => exact fun _ _ _ h => h
            simp only [Act.put, List.setIfInBounds_toArray, List.set_cons_zero, List.set_cons_succ]
            refine wpAnyH_take (i := 5) (oi := ?oi175) (v := undef) ?hi175 (by kernel_rfl) ?hf175 ?hr175 ?hQ175 (Or.inr ⟨?hw175, rfl⟩) (by assumption) ?rest175
            case hi175 => simp only [List.getElem?_toArray, List.getElem?_cons_succ, List.getElem?_cons_zero]; rfl
            case hf175 => kernel_rfl
            case hr175 => kernel_rfl
            case hw175 => rfl
            case hQ175 => exact fun _ _ _ h => h
            simp only [Act.put, List.setIfInBounds_toArray, List.set_cons_zero, List.set_cons_succ]
            refine wpAnyH_take (i := 6) (oi := ?oi176) (v := undef) ?hi176 (by kernel_rfl) ?hf176 ?hr176 ?hQ176 (Or.inr ⟨?hw176, rfl⟩) (by assumption) ?rest176
            case hi176 => simp only [List.getElem?_toArray, List.getElem?_cons_succ, List.getElem?_cons_zero]; rfl
            case hf176 => kernel_rfl
            case hr176 => kernel_rfl
            case hw176 => rfl
            case hQ176 => exact fun _ _ _ h => h
            simp only [Act.put, List.setIfInBounds_toArray, List.set_cons_zero, List.set_cons_succ]
            refine wpAnyH_take (i := 7) (oi := ?oi177) (v := undef) ?hi177 (by kernel_rfl) ?hf177 ?hr177 ?hQ177 (Or.inr ⟨?hw177, rfl⟩) (by assumption) ?rest177
            case hi177 => simp only [List.getElem?_toArray, List.getElem?_cons_succ, List.getElem?_cons_zero]; rfl
            case hf177 => kernel_rfl
            case hr177 => kernel_rfl
            case hw177 => rfl
            case hQ177 => exact fun _ _ _ h => h
            simp only [Act.put, List.setIfInBounds_toArray, List.set_cons_zero, List.set_cons_succ]
            refine wpAnyH_take (i := 8) (oi := ?oi178) (v := undef) ?hi178 (by kernel_rfl) ?hf178 ?hr178 ?hQ178 (Or.inr ⟨?hw178, rfl⟩) (by assumption) ?rest178
            case hi178 => simp only [List.getElem?_toArray, List.getElem?_cons_succ, List.getElem?_cons_zero]; rfl
            case hf178 => kernel_rfl
            case hr178 => kernel_rfl
            case hw178 => rfl
            case hQ178 => exact fun _ _ _ h => h
            simp only [Act.put, List.setIfInBounds_toArray, List.set_cons_zero, List.set_cons_succ]
            refine wpAnyH_take (i := 9) (oi := ?oi179) (v := undef) ?hi179 (by kernel_rfl) ?hf179 ?hr179 ?hQ179 (Or.inr ⟨?hw179, rfl⟩) (by assumption) ?rest179
            case hi179 => simp only [List.getElem?_toArray, List.getElem?_cons_succ, List.getElem?_cons_zero]; rfl
            case hf179 => kernel_rfl
            case hr179 => kernel_rfl
            case hw179 => rfl
            case hQ179 => exact fun _ _ _ h => h
            simp only [Act.put, List.setIfInBounds_toArray, List.set_cons_zero, List.set_cons_succ]
            refine wpAnyH_take (i := 10) (oi := ?oi180) (v := undef) ?hi180 (by kernel_rfl) ?hf180 ?hr180 ?hQ180 (Or.inr ⟨?hw180, rfl⟩) (by assumption) ?rest180
            case hi180 => simp only [List.getElem?_toArray, List.getElem?_cons_succ, List.getElem?_cons_zero]; rfl
            case hf180 => kernel_rfl
            case hr180 => kernel_rfl
            case hw180 => rfl
            case hQ180 => exact fun _ _ _ h => h
            simp only [Act.put, List.setIfInBounds_toArray, List.set_cons_zero, List.set_cons_succ]
            refine wpAnyH_take (i := 11) (oi := ?oi181) (v := undef) ?hi181 (by kernel_rfl) ?hf181 ?hr181 ?hQ181 (Or.inr ⟨?hw181, rfl⟩) (by assumption) ?rest181
            case hi181 => simp only [List.getElem?_toArray, List.getElem?_cons_succ, List.getElem?_cons_zero]; rfl
            case hf181 => kernel_rfl
            case hr181 => kernel_rfl
            case hw181 => rfl
            case hQ181 => exact fun _ _ _ h => h
            simp only [Act.put, List.setIfInBounds_toArray, List.set_cons_zero, List.set_cons_succ]
            refine wpAnyH_take (i := 12) (oi := ?oi182) (v := undef) ?hi182 (by kernel_rfl) ?hf182 ?hr182 ?hQ182 (Or.inr ⟨?hw182, rfl⟩) (by assumption) ?rest182
            case hi182 => simp only [List.getElem?_toArray, List.getElem?_cons_succ, List.getElem?_cons_zero]; rfl
            case hf182 => kernel_rfl
            case hr182 => kernel_rfl
            case hw182 => rfl
            case hQ182 => exact fun _ _ _ h => h
            simp only [Act.put, List.setIfInBounds_toArray, List.set_cons_zero, List.set_cons_succ]
            refine wpAnyH_take (i := 13) (oi := ?oi183) (v := undef) ?hi183 (by kernel_rfl) ?hf183 ?hr183 ?hQ183 (Or.inr ⟨?hw183, rfl⟩) (by assumption) ?rest183
            case hi183 => simp only [List.getElem?_toArray, List.getElem?_cons_succ, List.getElem?_cons_zero]; rfl
            case hf183 => kernel_rfl
            case hr183 => kernel_rfl
            case hw183 => rfl
            case hQ183 => exact fun _ _ _ h => h
            simp only [Act.put, List.setIfInBounds_toArray, List.set_cons_zero, List.set_cons_succ]
            refine wpAnyH_take (i := 14) (oi := ?oi184) (v := undef) ?hi184 (by kernel_rfl) ?hf184 ?hr184 ?hQ184 (Or.inr ⟨?hw184, rfl⟩) (by assumption) ?rest184
            case hi184 => simp only [List.getElem?_toArray, List.getElem?_cons_succ, List.getElem?_cons_zero]; rfl
            case hf184 => kernel_rfl
            case hr184 => kernel_rfl
            case hw184 => rfl
            case hQ184 => exact fun _ _ _ h => h
            simp only [Act.put, List.setIfInBounds_toArray, List.set_cons_zero, List.set_cons_succ]
            refine wpAnyH_take (i := 15) (oi := ?oi185) (v := undef) ?hi185 (by kernel_rfl) ?hf185 ?hr185 ?hQ185 (Or.inr ⟨?hw185, rfl⟩) (by assumption) ?rest185
            case hi185 => simp only [List.getElem?_toArray, List.getElem?_cons_succ, List.getElem?_cons_zero]; rfl
            case hf185 => kernel_rfl
            case hr185 => kernel_rfl
            case hw185 => rfl
            case hQ185 => exact fun _ _ _ h => h
            simp only [Act.put, List.setIfInBounds_toArray, List.set_cons_zero, List.set_cons_succ]
            refine wpAnyH_take (i := 16) (oi := ?oi186) (v := undef) ?hi186 (by kernel_rfl) ?hf186 ?hr186 ?hQ186 (Or.inr ⟨?hw186, rfl⟩) (by assumption) ?rest186
            case hi186 => simp only [List.getElem?_toArray, List.getElem?_cons_succ, List.getElem?_cons_zero]; rfl
            case hf186 => kernel_rfl
            case hr186 => kernel_rfl
            case hw186 => rfl
            case hQ186 => exact fun _ _ _ h => h
            simp only [Act.put, List.setIfInBounds_toArray, List.set_cons_zero, List.set_cons_succ]
            refine wpAnyH_take (i := 17) (oi := ?oi187) (v := undef) ?hi187 (by kernel_rfl) ?hf187 ?hr187 ?hQ187 (Or.inr ⟨?hw187, rfl⟩) (by assumption) ?rest187
            case hi187 => simp only [List.getElem?_toArray, List.getElem?_cons_succ, List.getElem?_cons_zero]; rfl
            case hf187 => kernel_rfl
            case hr187 => kernel_rfl
            case hw187 => rfl
            case hQ187 => exact fun _ _ _ h => h
            simp only [Act.put, List.setIfInBounds_toArray, List.set_cons_zero, List.set_cons_succ]
            refine wpAnyH_take (i := 18) (oi := ?oi188) (v := undef) ?hi188 (by kernel_rfl) ?hf188 ?hr188 ?hQ188 (Or.inr ⟨?hw188, rfl⟩) (by assumption) ?rest188
            case hi188 => simp only [List.getElem?_toArray, List.getElem?_cons_succ, List.getElem?_cons_zero]; rfl
            case hf188 => kernel_rfl
            case hr188 => kernel_rfl
            case hw188 => rfl
            case hQ188 => exact fun _ _ _ h => h
            simp only [Act.put, List.setIfInBounds_toArray, List.set_cons_zero, List.set_cons_succ]
            refine wpAnyH_take (i := 19) (oi := ?oi189) (v := undef) ?hi189 (by kernel_rfl) ?hf189 ?hr189 ?hQ189 (Or.inr ⟨?hw189, rfl⟩) (by assumption) ?rest189
            case hi189 => simp only [List.getElem?_toArray, List.getElem?_cons_succ, List.getElem?_cons_zero]; rfl
            case hf189 => kernel_rfl
            case hr189 => kernel_rfl
            case hw189 => rfl
            case hQ189 => exact fun _ _ _ h => h
            simp only [Act.put, List.setIfInBounds_toArray, List.set_cons_zero, List.set_cons_succ]
            refine wpAnyH_take (i := 20) (oi := ?oi190) (v := undef) ?hi190 (by kernel_rfl) ?hf190 ?hr190 ?hQ190 (Or.inr ⟨?hw190, rfl⟩) (by assumption) ?rest190
            case hi190 => simp only [List.getElem?_toArray, List.getElem?_cons_succ, List.getElem?_cons_zero]; rfl
            case hf190 => kernel_rfl
            case hr190 => kernel_rfl
            case hw190 => rfl
            case hQ190 => exact fun _ _ _ h => h
            simp only [Act.put, List.setIfInBounds_toArray, List.set_cons_zero, List.set_cons_succ]
            refine wpAnyH_take (i := 21) (oi := ?oi191) (v := undef) ?hi191 (by kernel_rfl) ?hf191 ?hr191 ?hQ191 (Or.inr ⟨?hw191, rfl⟩) (by assumption) ?rest191
            case hi191 => simp only [List.getElem?_toArray, List.getElem?_cons_succ, List.getElem?_cons_zero]; rfl
            case hf191 => kernel_rfl
            case hr191 => kernel_rfl
            case hw191 => rfl
            case hQ191 => exact fun _ _ _ h => h
            simp only [Act.put, List.setIfInBounds_toArray, List.set_cons_zero, List.set_cons_succ]
            refine wpAnyH_take (i := 22) (oi := ?oi192) (v := undef) ?hi192 (by kernel_rfl) ?hf192 ?hr192 ?hQ192 (Or.inr ⟨?hw192, rfl⟩) (by assumption) ?rest192
            case hi192 => simp only [List.getElem?_toArray, List.getElem?_cons_succ, List.getElem?_cons_zero]; rfl
            case hf192 => kernel_rfl
            case hr192 => kernel_rfl
            case hw192 => rfl
            case hQ192 => exact fun _ _ _ h => h
            simp only [Act.put, List.setIfInBounds_toArray, List.set_cons_zero, List.set_cons_succ]
            refine wpAnyH_take (i := 23) (oi := ?oi193) (v := undef) ?hi193 (by kernel_rfl) ?hf193 ?hr193 ?hQ193 (Or.inr ⟨?hw193, rfl⟩) (by assumption) ?rest193
            case hi193 => simp only [List.getElem?_toArray, List.getElem?_cons_succ, List.getElem?_cons_zero]; rfl
            case hf193 => kernel_rfl
            case hr193 => kernel_rfl
            case hw193 => rfl
            case hQ193 => exact fun _ _ _ h => h
            simp only [Act.put, List.setIfInBounds_toArray, List.set_cons_zero, List.set_cons_succ]
            refine wpAnyH_take (i := 24) (oi := ?oi194) (v := undef) ?hi194 (by kernel_rfl) ?hf194 ?hr194 ?hQ194 (Or.inr ⟨?hw194, rfl⟩) (by assumption) ?rest194
            case hi194 => simp only [List.getElem?_toArray, List.getElem?_cons_succ, List.getElem?_cons_zero]; rfl
            case hf194 => kernel_rfl
            case hr194 => kernel_rfl
            case hw194 => rfl
            case hQ194 => exact fun _ _ _ h => h
            simp only [Act.put, List.setIfInBounds_toArray, List.set_cons_zero, List.set_cons_succ]
            refine wpAnyH_take (i := 25) (oi := ?oi195) (v := undef) ?hi195 (by kernel_rfl) ?hf195 ?hr195 ?hQ195 (Or.inr ⟨?hw195, rfl⟩) (by assumption) ?rest195
            case hi195 => simp only [List.getElem?_toArray, List.getElem?_cons_succ, List.getElem?_cons_zero]; rfl
            case hf195 => kernel_rfl
            case hr195 => kernel_rfl
            case hw195 => rfl
            case hQ195 => exact fun _ _ _ h => h
            simp only [Act.put, List.setIfInBounds_toArray, List.set_cons_zero, List.set_cons_succ]
            refine wpAnyH_take (i := 26) (oi := ?oi196) (v := undef) ?hi196 (by kernel_rfl) ?hf196 ?hr196 ?hQ196 (Or.inr ⟨?hw196, rfl⟩) (by assumption) ?rest196
            case hi196 => simp only [List.getElem?_toArray, List.getElem?_cons_succ, List.getElem?_cons_zero]; rfl
            case hf196 => kernel_rfl
            case hr196 => kernel_rfl
            case hw196 => rfl
            case hQ196 => exact fun _ _ _ h => h
            simp only [Act.put, List.setIfInBounds_toArray, List.set_cons_zero, List.set_cons_succ]
            refine wpAnyH_take (i := 27) (oi := ?oi197) (v := undef) ?hi197 (by kernel_rfl) ?hf197 ?hr197 ?hQ197 (Or.inr ⟨?hw197, rfl⟩) (by assumption) ?rest197
            case hi197 => simp only [List.getElem?_toArray, List.getElem?_cons_succ, List.getElem?_cons_zero]; rfl
            case hf197 => kernel_rfl
            case hr197 => kernel_rfl
            case hw197 => rfl
            case hQ197 => exact fun _ _ _ h => h
            simp only [Act.put, List.setIfInBounds_toArray, List.set_cons_zero, List.set_cons_succ]
            refine wpAnyH_take (i := 28) (oi := ?oi198) (v := undef) ?hi198 (by kernel_rfl) ?hf198 ?hr198 ?hQ198 (Or.inr ⟨?hw198, rfl⟩) (by assumption) ?rest198
            case hi198 => simp only [List.getElem?_toArray, List.getElem?_cons_succ, List.getElem?_cons_zero]; rfl
            case hf198 => kernel_rfl
            case hr198 => kernel_rfl
            case hw198 => rfl
            case hQ198 => exact fun _ _ _ h => h
            simp only [Act.put, List.setIfInBounds_toArray, List.set_cons_zero, List.set_cons_succ]
            refine wpAnyH_take (i := 29) (oi := ?oi199) (v := undef) ?hi199 (by kernel_rfl) ?hf199 ?hr199 ?hQ199 (Or.inr ⟨?hw199, rfl⟩) (by assumption) ?rest199
            case hi199 => simp only [List.getElem?_toArray, List.getElem?_cons_succ, List.getElem?_cons_zero]; rfl
            case hf199 => kernel_rfl
            case hr199 => kernel_rfl
            case hw199 => rfl
            case hQ199 => exact fun _ _ _ h => h
            simp only [Act.put, List.setIfInBounds_toArray, List.set_cons_zero, List.set_cons_succ]
            refine wpAnyH_take (i := 30) (oi := ?oi200) (v := undef) ?hi200 (by kernel_rfl) ?hf200 ?hr200 ?hQ200 (Or.inr ⟨?hw200, rfl⟩) (by assumption) ?rest200
            case hi200 => simp only [List.getElem?_toArray, List.getElem?_cons_succ, List.getElem?_cons_zero]; rfl
            case hf200 => kernel_rfl
            case hr200 => kernel_rfl
            case hw200 => rfl
            case hQ200 => exact fun _ _ _ h => h
            simp only [Act.put, List.setIfInBounds_toArray, List.set_cons_zero, List.set_cons_succ]
            refine wpAnyH_take (i := 31) (oi := ?oi201) (v := ?v201) ?hi201 (by kernel_rfl) ?hf201 ?hr201 ?hQ201 (Or.inl ⟨?hw201, ?hy201⟩) (by assumption) ?rest201
            case hi201 => simp only [List.getElem?_toArray, List.getElem?_cons_succ, List.getElem?_cons_zero]; rfl
            case hf201 => kernel_rfl
            case hr201 => kernel_rfl
            case hw201 => rfl
            case hy201 => (intro w hSw; (try dsimp only at hSw); go_simp; all_goals (first | done | with_reducible rfl))
            case hQ201 => exact fun _ _ _ h => h
            simp only [Act.put, List.setIfInBounds_toArray, List.set_cons_zero, List.set_cons_succ]
            refine wpAnyH_done (by kernel_rfl) ?_ _
            go_wp2_with fail
            go_roundw
            case rel => exact ⟨k + 1, by go_num, by omega, below_dr HW15.out _, below_dr HO15.out _⟩
            case measure => simp [intOf]; omega
          · obtain ⟨i, hi⟩ : ∃ i : Nat, ii = (i : Int) := ⟨ii.toNat, by omega⟩
            subst hi
            have him := HIX.out i rfl
            obtain ⟨f1, f2⟩ := HF.out i rfl
            have g1 := HGc.out _ _ HG.out.2.1
            have g4 := HGc.out _ _ HG.out.2.2
            rw [f1] at g1
            rw [f2] at g4
            obtain ⟨b', o', p', A9', hn9', k9', A10', fn9', k10', rfl, -, -, -, -, -, -, g1', -, -, g4', -⟩ := (TB.out _ HW15.out).1.lgr him
            generalize lvAt Lb i = lv at *
            generalize stopAt Lb i = st at *
            have t0 : (0 : Int) ≤ (i : Int) := by omega
            have t1 : (i : Int) < (m1 : Int) := by omega
            have t2 : ((i : Int)).toNat = i := by simp
            have b0 : (lv != lv) = false := by simp
            have b1 : (st != st) = false := by simp
            clear f1 f2 hneg h0
            go_wp2_with fail
            go_quiet (fail)
            go_wp2_with fail
            go_roundw
            case rel => exact ⟨k + 1, by go_num, by omega, below_dr HW15.out _, below_dr HO15.out _⟩
            case measure => simp [intOf]; omega
        · have HWf := hid (HWr.out.drew)
          have HOf := hid (HOr.out.drew)
          have qq : (qb == qb) = true := by simp
          go_wp2_with fail
          refine wp_region_held_drew (S := (fun w' : World => (w'.cell? ⟨bo, 0, none⟩ = some (.slice A3 n3 k3) ∧ w'.cell? ⟨bo, 1, none⟩ = some (.slice A4 n4 k4) ∧ w'.cell? ⟨bo, 2, none⟩ = some (.int .i64 qb)) ∧ (w'.cell? ⟨ba, 0, none⟩ = some (.slice A1 n1 k1) ∧ w'.cell? ⟨ba, 1, none⟩ = some (.slice A2 n2 k2) ∧ w'.cell? ⟨ba, 2, none⟩ = some (.int .i64 q)) ∧ (w'.cell? ⟨bb, 0, none⟩ = some (.slice B1 m1 j1) ∧ w'.cell? ⟨bb, 1, none⟩ = some (.slice B2 m2 j2) ∧ w'.cell? ⟨bb, 2, none⟩ = some (.int .i64 qb)))) (by kernel_rfl) ⟨⟨((KO.out.to HOf.out).2 0 _ rfl).1, ((KO.out.to HOf.out).2 1 _ rfl).1, ((KO.out.to HOf.out).2 2 _ rfl).1⟩, ⟨((KA.out.to HWf.out).2 0 _ rfl).1, ((KA.out.to HWf.out).2 1 _ rfl).1, ((KA.out.to HWf.out).2 2 _ rfl).1⟩, ⟨((KB.out.to HWf.out).2 0 _ rfl).1, ((KB.out.to HWf.out).2 1 _ rfl).1, ((KB.out.to HWf.out).2 2 _ rfl).1⟩⟩ (fun hS => ?_)
          refine wpAnyH_take (i := 0) (oi := ?oi202) (v := ?v202) ?hi202 (by kernel_rfl) ?hf202 ?hr202 ?hQ202 (Or.inl ⟨?hw202, ?hy202⟩) (by assumption) ?rest202
          case hi202 => simp only [List.getElem?_toArray, List.getElem?_cons_succ, List.getElem?_cons_zero]; rfl
          case hf202 => kernel_rfl
          case hr202 => kernel_rfl
          case hw202 => rfl
          case hy202 => (intro w hSw; (try dsimp only at hSw); go_simp; all_goals (first | done | with_reducible rfl))
          case hQ202 => exact fun _ _ _ h => h
          simp only [Act.put, List.setIfInBounds_toArray, List.set_cons_zero, List.set_cons_succ]
          refine wpAnyH_take (i := 2) (oi := ?oi203) (v := ?v203) ?hi203 (by kernel_rfl) ?hf203 ?hr203 ?hQ203 (Or.inl ⟨?hw203, ?hy203⟩) (by assumption) ?rest203
          case hi203 => simp only [List.getElem?_toArray, List.getElem?_cons_succ, List.getElem?_cons_zero]; rfl
          case hf203 => kernel_rfl
          case hr203 => kernel_rfl
          case hw203 => rfl
          case hy203 => (intro w hSw; (try dsimp only at hSw); go_simp; all_goals (first | done | with_reducible rfl))
          case hQ203 => exact fun _ _ _ h => h
          simp only [Act.put, List.setIfInBounds_toArray, List.set_cons_zero, List.set_cons_succ]
          refine wpAnyH_ready (rs := [1]) (by kernel_rfl) (by simp) ?_
          refine AllReadyH.cons (o := ?oi204) ?hi204 (fun K hK => ?step204) AllReadyH.nil
          case hi204 => simp only [List.getElem?_toArray, List.getElem?_cons_succ, List.getElem?_cons_zero]; rfl
          rw [if_pos (by rfl)]
          go_simp
          go_at_call 41
          refine (CN1.out _ HOf.out).mono ?_
          rintro e w31 ⟨v31, rfl, ho31, hb⟩
          have HW31 := hid (HWf.out.trans (hb.mono HWf.out.size))
          have HO31 := hid (HOf.out.trans (hb.mono HOf.out.size))
          obtain ⟨N1, nc1, rfl, _, _⟩ := (Sl.of_own ho31).form
          have O31 := hid (Sl.of_own ho31)
          clear ho31
          clear hb
          refine hK.out _ _ ⟨⟨((KO.out.to HO31.out).2 0 _ rfl).1, ((KO.out.to HO31.out).2 1 _ rfl).1, ((KO.out.to HO31.out).2 2 _ rfl).1⟩, ⟨((KA.out.to HW31.out).2 0 _ rfl).1, ((KA.out.to HW31.out).2 1 _ rfl).1, ((KA.out.to HW31.out).2 2 _ rfl).1⟩, ⟨((KB.out.to HW31.out).2 0 _ rfl).1, ((KB.out.to HW31.out).2 1 _ rfl).1, ((KB.out.to HW31.out).2 2 _ rfl).1⟩⟩ (fun hS => ?_)
          refine wpAnyH_ready (rs := [3]) (by kernel_rfl) (by simp) ?_
          refine AllReadyH.cons (o := ?oi205) ?hi205 (fun K hK => ?step205) AllReadyH.nil
          case hi205 => simp only [List.getElem?_toArray, List.getElem?_cons_succ, List.getElem?_cons_zero]; rfl
          rw [if_pos (by rfl)]
          go_simp
          go_at_call 41
          refine (CN2.out _ HW31.out).mono ?_
          rintro e w32 ⟨v32, rfl, ho32, hb⟩
          have HW32 := hid (HW31.out.trans (hb.mono HW31.out.size))
          have HO32 := hid (HO31.out.trans (hb.mono HO31.out.size))
          obtain ⟨N2, nc2, rfl, _, _⟩ := (Sl.of_own ho32).form
          have CQT := hid (equalTexts_c _ _ _ _ w32.heap.size NS NS w32 ((O31.out.below hb (Nat.le_refl _)).more hb.size) (Sl.of_own ho32) (Nat.le_refl _))
          clear ho32
          clear hb
          refine hK.out _ _ ⟨⟨((KO.out.to HO32.out).2 0 _ rfl).1, ((KO.out.to HO32.out).2 1 _ rfl).1, ((KO.out.to HO32.out).2 2 _ rfl).1⟩, ⟨((KA.out.to HW32.out).2 0 _ rfl).1, ((KA.out.to HW32.out).2 1 _ rfl).1, ((KA.out.to HW32.out).2 2 _ rfl).1⟩, ⟨((KB.out.to HW32.out).2 0 _ rfl).1, ((KB.out.to HW32.out).2 1 _ rfl).1, ((KB.out.to HW32.out).2 2 _ rfl).1⟩⟩ (fun hS => ?_)
          refine wpAnyH_ready (rs := [4]) (by kernel_rfl) (by simp) ?_
          refine AllReadyH.cons (o := ?oi206) ?hi206 (fun K hK => ?step206) AllReadyH.nil
          case hi206 => simp only [List.getElem?_toArray, List.getElem?_cons_succ, List.getElem?_cons_zero]; rfl
          rw [if_pos (by rfl)]
          go_simp
          go_at_call 37
          refine (CQT.out).mono ?_
          rintro e w33 ⟨rfl, hb⟩
          have HW33 := hid (HW32.out.trans (hb.mono HW32.out.size))
          have HO33 := hid (HO32.out.trans (hb.mono HO32.out.size))
          clear hb
          refine hK.out _ _ ⟨⟨((KO.out.to HO33.out).2 0 _ rfl).1, ((KO.out.to HO33.out).2 1 _ rfl).1, ((KO.out.to HO33.out).2 2 _ rfl).1⟩, ⟨((KA.out.to HW33.out).2 0 _ rfl).1, ((KA.out.to HW33.out).2 1 _ rfl).1, ((KA.out.to HW33.out).2 2 _ rfl).1⟩, ⟨((KB.out.to HW33.out).2 0 _ rfl).1, ((KB.out.to HW33.out).2 1 _ rfl).1, ((KB.out.to HW33.out).2 2 _ rfl).1⟩⟩ (fun hS => ?_)
          refine wpAnyH_take (i := 5) (oi := ?oi207) (v := ?v207) ?hi207 (by kernel_rfl) ?hf207 ?hr207 ?hQ207 (Or.inl ⟨?hw207, ?hy207⟩) (by assumption) ?rest207
          case hi207 => simp only [List.getElem?_toArray, List.getElem?_cons_succ, List.getElem?_cons_zero]; rfl
          case hf207 => kernel_rfl
          case hr207 => kernel_rfl
          case hw207 => rfl
          case hy207 => (intro w hSw; (try dsimp only at hSw); go_simp; all_goals (first | done | with_reducible rfl))
          case hQ207 => exact fun _ _ _ h => h
          simp only [Act.put, List.setIfInBounds_toArray, List.set_cons_zero, List.set_cons_succ]
          refine wpAnyH_take (i := 6) (oi := ?oi208) (v := ?v208) ?hi208 (by kernel_rfl) ?hf208 ?hr208 ?hQ208 (Or.inl ⟨?hw208, ?hy208⟩) (by assumption) ?rest208
          case hi208 => simp only [List.getElem?_toArray, List.getElem?_cons_succ, List.getElem?_cons_zero]; rfl
          case hf208 => kernel_rfl
          case hr208 => kernel_rfl
          case hw208 => rfl
          case hy208 => (intro w hSw; (try dsimp only at hSw); go_simp; all_goals (first | done | with_reducible rfl))
          case hQ208 => exact fun _ _ _ h => h
          simp only [Act.put, List.setIfInBounds_toArray, List.set_cons_zero, List.set_cons_succ]
          refine wpAnyH_take (i := 7) (oi := ?oi209) (v := ?v209) ?hi209 (by kernel_rfl) ?hf209 ?hr209 ?hQ209 (Or.inl ⟨?hw209, ?hy209⟩) (by assumption) ?rest209
          case hi209 => simp only [List.getElem?_toArray, List.getElem?_cons_succ, List.getElem?_cons_zero]; rfl
          case hf209 => kernel_rfl
          case hr209 => kernel_rfl
          case hw209 => rfl
          case hy209 => (intro w hSw; (try dsimp only at hSw); go_simp; all_goals (first | done | with_reducible rfl))
          case hQ209 => exact fun _ _ _ h => h
          simp only [Act.put, List.setIfInBounds_toArray, List.set_cons_zero, List.set_cons_succ]
          refine wpAnyH_take (i := 9) (oi := ?oi210) (v := ?v210) ?hi210 (by kernel_rfl) ?hf210 ?hr210 ?hQ210 (Or.inl ⟨?hw210, ?hy210⟩) (by assumption) ?rest210
          case hi210 => simp only [List.getElem?_toArray, List.getElem?_cons_succ, List.getElem?_cons_zero]; rfl
          case hf210 => kernel_rfl
          case hr210 => kernel_rfl
          case hw210 => rfl
          case hy210 => (intro w hSw; (try dsimp only at hSw); go_simp; all_goals (first | done | with_reducible rfl))
          case hQ210 => exact fun _ _ _ h => h
          simp only [Act.put, List.setIfInBounds_toArray, List.set_cons_zero, List.set_cons_succ]
          refine wpAnyH_ready (rs := [8]) (by kernel_rfl) (by simp) ?_
          refine AllReadyH.cons (o := ?oi211) ?hi211 (fun K hK => ?step211) AllReadyH.nil
          case hi211 => simp only [List.getElem?_toArray, List.getElem?_cons_succ, List.getElem?_cons_zero]; rfl
          rw [if_pos (by rfl)]
          go_simp
          go_at_call 39
          refine (CPT.out _ HW33.out HO33.out).mono ?_
          rintro e w34 ⟨v34, rs34, rfl, hs34, hr34, hb⟩
          have HW34 := hid (HW33.out.trans (hb.mono HW33.out.size))
          have HO34 := hid (HO33.out.trans (hb.mono HO33.out.size))
          obtain ⟨Q1, qn1, qk1, Q2, qn2, qk2, rfl, -, -⟩ := hs34.form_ hr34
          have CQ3 := hid (equalTree_c (hs34.at_ hr34 DY.out) (TN.out _ HO34.out).1 (Nat.le_refl _) (TN.out _ HO34.out).2)
          clear hs34 hr34
          clear hb
          refine hK.out _ _ ⟨⟨((KO.out.to HO34.out).2 0 _ rfl).1, ((KO.out.to HO34.out).2 1 _ rfl).1, ((KO.out.to HO34.out).2 2 _ rfl).1⟩, ⟨((KA.out.to HW34.out).2 0 _ rfl).1, ((KA.out.to HW34.out).2 1 _ rfl).1, ((KA.out.to HW34.out).2 2 _ rfl).1⟩, ⟨((KB.out.to HW34.out).2 0 _ rfl).1, ((KB.out.to HW34.out).2 1 _ rfl).1, ((KB.out.to HW34.out).2 2 _ rfl).1⟩⟩ (fun hS => ?_)
          refine wpAnyH_ready (rs := [10]) (by kernel_rfl) (by simp) ?_
          refine AllReadyH.cons (o := ?oi212) ?hi212 (fun K hK => ?step212) AllReadyH.nil
          case hi212 => simp only [List.getElem?_toArray, List.getElem?_cons_succ, List.getElem?_cons_zero]; rfl
          rw [if_pos (by rfl)]
          go_simp
          go_at_call 26
          refine (CQ3.out).mono ?_
          rintro e w35 ⟨rfl, hb⟩
          have HW35 := hid (HW34.out.trans (hb.mono HW34.out.size))
          have HO35 := hid (HO34.out.trans (hb.mono HO34.out.size))
          clear hb
          refine hK.out _ _ ⟨⟨((KO.out.to HO35.out).2 0 _ rfl).1, ((KO.out.to HO35.out).2 1 _ rfl).1, ((KO.out.to HO35.out).2 2 _ rfl).1⟩, ⟨((KA.out.to HW35.out).2 0 _ rfl).1, ((KA.out.to HW35.out).2 1 _ rfl).1, ((KA.out.to HW35.out).2 2 _ rfl).1⟩, ⟨((KB.out.to HW35.out).2 0 _ rfl).1, ((KB.out.to HW35.out).2 1 _ rfl).1, ((KB.out.to HW35.out).2 2 _ rfl).1⟩⟩ (fun hS => ?_)
          refine wpAnyH_take (i := 11) (oi := ?oi213) (v := ?v213) ?hi213 (by kernel_rfl) ?hf213 ?hr213 ?hQ213 (Or.inl ⟨?hw213, ?hy213⟩) (by assumption) ?rest213
          case hi213 => simp only [List.getElem?_toArray, List.getElem?_cons_succ, List.getElem?_cons_zero]; rfl
          case hf213 => kernel_rfl
          case hr213 => kernel_rfl
          case hw213 => rfl
          case hy213 => (intro w hSw; (try dsimp only at hSw); go_simp; all_goals (first | done | with_reducible rfl))
          case hQ213 => exact fun _ _ _ h => h
          simp only [Act.put, List.setIfInBounds_toArray, List.set_cons_zero, List.set_cons_succ]
          refine wpAnyH_take (i := 12) (oi := ?oi214) (v := ?v214) ?hi214 (by kernel_rfl) ?hf214 ?hr214 ?hQ214 (Or.inl ⟨?hw214, ?hy214⟩) (by assumption) ?rest214
          case hi214 => simp only [List.getElem?_toArray, List.getElem?_cons_succ, List.getElem?_cons_zero]; rfl
          case hf214 => kernel_rfl
          case hr214 => kernel_rfl
          case hw214 => rfl
          case hy214 => (intro w hSw; (try dsimp only at hSw); go_simp; all_goals (first | done | with_reducible rfl))
          case hQ214 => exact fun _ _ _ h => h
          simp only [Act.put, List.setIfInBounds_toArray, List.set_cons_zero, List.set_cons_succ]
          refine wpAnyH_take (i := 13) (oi := ?oi215) (v := ?v215) ?hi215 (by kernel_rfl) ?hf215 ?hr215 ?hQ215 (Or.inl ⟨?hw215, ?hy215⟩) (by assumption) ?rest215
          case hi215 => simp only [List.getElem?_toArray, List.getElem?_cons_succ, List.getElem?_cons_zero]; rfl
          case hf215 => kernel_rfl
          case hr215 => kernel_rfl
          case hw215 => rfl
          case hy215 => (intro w hSw; (try dsimp only at hSw); go_simp; all_goals (first | done | with_reducible rfl))
          case hQ215 => exact fun _ _ _ h => h
          simp only [Act.put, List.setIfInBounds_toArray, List.set_cons_zero, List.set_cons_succ]
          refine wpAnyH_take (i := 14) (oi := ?oi216) (v := ?v216) ?hi216 (by kernel_rfl) ?hf216 ?hr216 ?hQ216 (Or.inl ⟨?hw216, ?hy216⟩) (by assumption) ?rest216
          case hi216 => simp only [List.getElem?_toArray, List.getElem?_cons_succ, List.getElem?_cons_zero]; rfl
          case hf216 => kernel_rfl
          case hr216 => kernel_rfl
          case hw216 => rfl
          case hy216 => (intro w hSw; (try dsimp only at hSw); go_simp; all_goals (first | done | with_reducible rfl))
          case hQ216 => exact fun _ _ _ h => h
          simp only [Act.put, List.setIfInBounds_toArray, List.set_cons_zero, List.set_cons_succ]
          refine wpAnyH_take (i := 16) (oi := ?oi217) (v := ?v217) ?hi217 (by kernel_rfl) ?hf217 ?hr217 ?hQ217 (Or.inl ⟨?hw217, ?hy217⟩) (by assumption) ?rest217
          case hi217 => simp only [List.getElem?_toArray, List.getElem?_cons_succ, List.getElem?_cons_zero]; rfl
          case hf217 => kernel_rfl
          case hr217 => kernel_rfl
          case hw217 => rfl
          case hy217 => (intro w hSw; (try dsimp only at hSw); go_simp; all_goals (first | done | with_reducible rfl))
          case hQ217 => exact fun _ _ _ h => h
          simp only [Act.put, List.setIfInBounds_toArray, List.set_cons_zero, List.set_cons_succ]
          refine wpAnyH_ready (rs := [15]) (by kernel_rfl) (by simp) ?_
          refine AllReadyH.cons (o := ?oi218) ?hi218 (fun K hK => ?step218) AllReadyH.nil
          case hi218 => simp only [List.getElem?_toArray, List.getElem?_cons_succ, List.getElem?_cons_zero]; rfl
          rw [if_pos (by rfl)]
          go_simp
          go_at_call 39
          refine (CPS.out _ HW35.out).mono ?_
          rintro e w36 ⟨v36, rs36, rfl, hs36, hr36, hb⟩
          have HW36 := hid (HW35.out.trans (hb.mono HW35.out.size))
          have HO36 := hid (HO35.out.trans (hb.mono HO35.out.size))
          obtain ⟨R1, rn1, rk1, R2, rn2, rk2, rfl, -, -⟩ := hs36.form_ hr36
          have CQ4 := hid (equalTree_c (hs36.at_ hr36 HD.out) (TA.out _ HW36.out).1 (Nat.le_refl _) (TA.out _ HW36.out).2)
          clear hs36 hr36
          clear hb
          refine hK.out _ _ ⟨⟨((KO.out.to HO36.out).2 0 _ rfl).1, ((KO.out.to HO36.out).2 1 _ rfl).1, ((KO.out.to HO36.out).2 2 _ rfl).1⟩, ⟨((KA.out.to HW36.out).2 0 _ rfl).1, ((KA.out.to HW36.out).2 1 _ rfl).1, ((KA.out.to HW36.out).2 2 _ rfl).1⟩, ⟨((KB.out.to HW36.out).2 0 _ rfl).1, ((KB.out.to HW36.out).2 1 _ rfl).1, ((KB.out.to HW36.out).2 2 _ rfl).1⟩⟩ (fun hS => ?_)
          refine wpAnyH_ready (rs := [17]) (by kernel_rfl) (by simp) ?_
          refine AllReadyH.cons (o := ?oi219) ?hi219 (fun K hK => ?step219) AllReadyH.nil
          case hi219 => simp only [List.getElem?_toArray, List.getElem?_cons_succ, List.getElem?_cons_zero]; rfl
          rw [if_pos (by rfl)]
          go_simp
          go_at_call 26
          refine (CQ4.out).mono ?_
          rintro e w37 ⟨rfl, hb⟩
          have HW37 := hid (HW36.out.trans (hb.mono HW36.out.size))
          have HO37 := hid (HO36.out.trans (hb.mono HO36.out.size))
          clear hb
          refine hK.out _ _ ⟨⟨((KO.out.to HO37.out).2 0 _ rfl).1, ((KO.out.to HO37.out).2 1 _ rfl).1, ((KO.out.to HO37.out).2 2 _ rfl).1⟩, ⟨((KA.out.to HW37.out).2 0 _ rfl).1, ((KA.out.to HW37.out).2 1 _ rfl).1, ((KA.out.to HW37.out).2 2 _ rfl).1⟩, ⟨((KB.out.to HW37.out).2 0 _ rfl).1, ((KB.out.to HW37.out).2 1 _ rfl).1, ((KB.out.to HW37.out).2 2 _ rfl).1⟩⟩ (fun hS => ?_)
          refine wpAnyH_take (i := 18) (oi := ?oi220) (v := ?v220) ?hi220 (by kernel_rfl) ?hf220 ?hr220 ?hQ220 (Or.inl ⟨?hw220, ?hy220⟩) (by assumption) ?rest220
          case hi220 => simp only [List.getElem?_toArray, List.getElem?_cons_succ, List.getElem?_cons_zero]; rfl
          case hf220 => kernel_rfl
          case hr220 => kernel_rfl
          case hw220 => rfl
          case hy220 => (intro w hSw; (try dsimp only at hSw); go_simp; all_goals (first | done | with_reducible rfl))
          case hQ220 => exact fun _ _ _ h => h
          simp only [Act.put, List.setIfInBounds_toArray, List.set_cons_zero, List.set_cons_succ]
          refine wpAnyH_take (i := 19) (oi := ?oi221) (v := ?v221) ?hi221 (by kernel_rfl) ?hf221 ?hr221 ?hQ221 (Or.inl ⟨?hw221, ?hy221⟩) (by assumption) ?rest221
          case hi221 => simp only [List.getElem?_toArray, List.getElem?_cons_succ, List.getElem?_cons_zero]; rfl
          case hf221 => kernel_rfl
          case hr221 => kernel_rfl
          case hw221 => rfl
          case hy221 => (intro w hSw; (try dsimp only at hSw); go_simp; all_goals (first | done | with_reducible rfl))
          case hQ221 => exact fun _ _ _ h => h
          simp only [Act.put, List.setIfInBounds_toArray, List.set_cons_zero, List.set_cons_succ]
          refine wpAnyH_take (i := 20) (oi := ?oi222) (v := ?v222) ?hi222 (by kernel_rfl) ?hf222 ?hr222 ?hQ222 (Or.inl ⟨?hw222, ?hy222⟩) (by assumption) ?rest222
          case hi222 => simp only [List.getElem?_toArray, List.getElem?_cons_succ, List.getElem?_cons_zero]; rfl
          case hf222 => kernel_rfl
          case hr222 => kernel_rfl
          case hw222 => rfl
          case hy222 => (intro w hSw; (try dsimp only at hSw); go_simp; all_goals (first | done | with_reducible rfl))
          case hQ222 => exact fun _ _ _ h => h
          simp only [Act.put, List.setIfInBounds_toArray, List.set_cons_zero, List.set_cons_succ]
          refine wpAnyH_take (i := 21) (oi := ?oi223) (v := ?v223) ?hi223 (by kernel_rfl) ?hf223 ?hr223 ?hQ223 (Or.inl ⟨?hw223, ?hy223⟩) (by assumption) ?rest223
          case hi223 => simp only [List.getElem?_toArray, List.getElem?_cons_succ, List.getElem?_cons_zero]; rfl
          case hf223 => kernel_rfl
          case hr223 => kernel_rfl
          case hw223 => rfl
          case hy223 => (intro w hSw; (try dsimp only at hSw); go_simp; all_goals (first | done | with_reducible rfl))
          case hQ223 => exact fun _ _ _ h => h
          simp only [Act.put, List.setIfInBounds_toArray, List.set_cons_zero, List.set_cons_succ]
          refine wpAnyH_take (i := 22) (oi := ?oi224) (v := ?v224) ?hi224 (by kernel_rfl) ?hf224 ?hr224 ?hQ224 (Or.inl ⟨?hw224, ?hy224⟩) (by assumption) ?rest224
          case hi224 => simp only [List.getElem?_toArray, List.getElem?_cons_succ, List.getElem?_cons_zero]; rfl
          case hf224 => kernel_rfl
          case hr224 => kernel_rfl
          case hw224 => rfl
          case hy224 => (intro w hSw; (try dsimp only at hSw); go_simp; all_goals (first | done | with_reducible rfl))
          case hQ224 => exact fun _ _ _ h => h
          simp only [Act.put, List.setIfInBounds_toArray, List.set_cons_zero, List.set_cons_succ]
          refine wpAnyH_take (i := 23) (oi := ?oi225) (v := ?v225) ?hi225 (by kernel_rfl) ?hf225 ?hr225 ?hQ225 (Or.inl ⟨?hw225, ?hy225⟩) (by assumption) ?rest225
          case hi225 => simp only [List.getElem?_toArray, List.getElem?_cons_succ, List.getElem?_cons_zero]; rfl
          case hf225 => kernel_rfl
          case hr225 => kernel_rfl
          case hw225 => rfl
          case hy225 => (intro w hSw; (try dsimp only at hSw); go_simp; all_goals (first | done | with_reducible rfl))
          case hQ225 => exact fun _ _ _ h => h
          simp only [Act.put, List.setIfInBounds_toArray, List.set_cons_zero, List.set_cons_succ]
          refine wpAnyH_take (i := 24) (oi := ?oi226) (v := ?v226) ?hi226 (by kernel_rfl) ?hf226 ?hr226 ?hQ226 (Or.inl ⟨?hw226, ?hy226⟩) (by assumption) ?rest226
          case hi226 => simp only [List.getElem?_toArray, List.getElem?_cons_succ, List.getElem?_cons_zero]; rfl
          case hf226 => kernel_rfl
          case hr226 => kernel_rfl
          case hw226 => rfl
          case hy226 => (intro w hSw; (try dsimp only at hSw); go_simp; all_goals (first | done | with_reducible rfl))
          case hQ226 => exact fun _ _ _ h => h
          simp only [Act.put, List.setIfInBounds_toArray, List.set_cons_zero, List.set_cons_succ]
          refine wpAnyH_take (i := 25) (oi := ?oi227) (v := ?v227) ?hi227 (by kernel_rfl) ?hf227 ?hr227 ?hQ227 (Or.inl ⟨?hw227, ?hy227⟩) (by assumption) ?rest227
          case hi227 => simp only [List.getElem?_toArray, List.getElem?_cons_succ, List.getElem?_cons_zero]; rfl
          case hf227 => kernel_rfl
          case hr227 => kernel_rfl
          case hw227 => rfl
          case hy227 => (intro w hSw; (try dsimp only at hSw); go_simp; all_goals (first | done | with_reducible rfl))
          case hQ227 => exact fun _ _ _ h => h
          simp only [Act.put, List.setIfInBounds_toArray, List.set_cons_zero, List.set_cons_succ]
          refine wpAnyH_take (i := 26) (oi := ?oi228) (v := ?v228) ?hi228 (by kernel_rfl) ?hf228 ?hr228 ?hQ228 (Or.inl ⟨?hw228, ?hy228⟩) (by assumption) ?rest228
          case hi228 => simp only [List.getElem?_toArray, List.getElem?_cons_succ, List.getElem?_cons_zero]; rfl
          case hf228 => kernel_rfl
          case hr228 => kernel_rfl
          case hw228 => rfl
          case hy228 => (intro w hSw; (try dsimp only at hSw); go_simp; all_goals (first | done | with_reducible rfl))
          case hQ228 => exact fun _ _ _ h => h
          simp only [Act.put, List.setIfInBounds_toArray, List.set_cons_zero, List.set_cons_succ]
          refine wpAnyH_done (by kernel_rfl) ?_ _
          clear hS
          go_wp2_with fail
          go_ret
          exact ⟨rfl, HB.out.trans (HW37.out.mono HB.out.size)⟩
end Go.Proofs.Yteoblmhbjmefoaa
