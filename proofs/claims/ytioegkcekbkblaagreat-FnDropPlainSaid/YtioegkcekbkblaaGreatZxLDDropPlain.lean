/-
  WALK: the law FnDropPlain. By gen_dplain.py.
-/
import Derived.Test.YtioegkcekbkblaaGreatZxE36
import Derived.Test.YtioegkcekbkblaaGreatZxSD0
import Derived.Test.YtioegkcekbkblaaGreatZxDP3
import Derived.Test.YtioegkcekbkblaaGreatZxSN9
import Derived.Test.YtioegkcekbkblaaGreatZxEqSent
import Derived.Test.YtioegkcekbkblaaGreatZxLookI
import Derived.Test.YtioegkcekbkblaaGreatZxSpotLaws
namespace Go.Proofs.YtioegkcekbkblaaGreat
open Go.RowKit Go.Proofs.YtioegkcekbkblaaGreat.Nm
set_option linter.unusedSimpArgs false
set_option linter.unusedVariables false

theorem fit_noneP : dataFit [] [] := ⟨⟨by simp, by simp⟩, ⟨by simp, by simp⟩⟩
def plainTail : List Name := [[97, 46, 98, 46, 99], [122]]
theorem plainTail_lit (W : World) : Sl (W.alloc (.cells #[.string ⟨#[97, 46, 98, 46, 99]⟩, .string ⟨#[122]⟩] 9)) (W.alloc (.cells #[.string ⟨#[97, 46, 98, 46, 99]⟩, .string ⟨#[122]⟩] 9)).heap.size 1 2 (.slice (some ⟨W.heap.size, 0, none⟩) 2 2) (plainTail.map txt) :=
  Sl.of_own (World.ownsRow_lit (e := 9) (size := 1) (base := W.heap.size) W #[.string ⟨#[97, 46, 98, 46, 99]⟩, .string ⟨#[122]⟩] 2 (Nat.le_refl _) (by unfold maxLen; omega) rfl)
set_option maxHeartbeats 16000000 in
set_option maxRecDepth 100000 in
theorem walk_FnDropPlain (a0 : Option Addr) (len0 cap0 : Nat) (z0 : List Int) (w : World) (w0 : IsRow .u8 w a0 len0 cap0 z0) :
    Calls Tryz.prog 9 #[.slice a0 len0 cap0] w (BoolPost w true) := by
  have hb0 := w0.leT
  by_cases h1 : (1048576 : Int) < (len0 : Int)
  · go_enter Tryz.func9, Tryz.ntmps9
    go_wp2_with fail
    go_ret
    exact ⟨rfl, Below.refl _ _⟩
  have DR := hid (drawDropPlain_c a0 len0 cap0 z0 w w0)
  clear w0
  go_enter Tryz.func9, Tryz.ntmps9
  go_wp2_with fail
  refine DR.out.mono ?_
  rintro e w1 ⟨v, rs, L, H, q, rfl, hs, hsm, hr, hb⟩
  obtain ⟨A1, n1, k1, A2, n2, k2, rfl, hn1, hn2⟩ := hs.form_ hr
  have hd := sm_fit hsm (by omega)
  have hbx : Below w1.heap.size w1 (w1.alloc (.cells #[.slice A1 n1 k1, .slice A2 n2 k2, .int .i64 q] 26)) := (Below.refl _ _).alloc (Nat.le_refl _) _
  have TI := hid ((hs.at_ hr hd).below hbx (Nat.le_refl _))
  have KA := hid (Blk.new w1 #[.slice A1 n1 k1, .slice A2 n2 k2, .int .i64 q] 26)
  have HB := hid (hb.trans (hbx.mono hb.size))
  have hl1 : w1.heap.size ≤ (w1.alloc (.cells #[.slice A1 n1 k1, .slice A2 n2 k2, .int .i64 q] 26)).heap.size := by simp
  have HL := hid hsm
  have DX := hid (dropP_res_fit L H q)
  clear hs hr hb hsm hn1 hn2 hbx DR hd
  have d0 := (KA.out.2 0 _ rfl).1
  have d1 := (KA.out.2 1 _ rfl).1
  have d2 := (KA.out.2 2 _ rfl).1
  go_wp2_with fail
  generalize hba : w1.heap.size = ba at *
  generalize w1.alloc (.cells #[.slice A1 n1 k1, .slice A2 n2 k2, .int .i64 q] 26) = w2 at *
  clear hba
  have HW2 := hid (Below.refl w2.heap.size w2)
  have TA := hid (fun (W : World) (hW : Below w2.heap.size w2 W) => (And.intro (TI.out.below hW hl1) (Nat.le_trans hl1 hW.size)))
  cases hA : treeOk L H q with
  | false =>
    have hX : dropPX L H q = none := by unfold dropPX changedO; rw [hA]; rfl
    have CI := hid (fun (W : World) (hW : Below w2.heap.size w2 W) => (show Calls Tryz.prog 34 #[.agg #[.slice A1 n1 k1, .slice A2 n2 k2, .int .i64 q]] W (TreePost W [] [] 0) from by have h9 := implDropPlain_c (TA.out W hW).1 (TA.out W hW).2; rw [hX] at h9; exact h9))
    have CS := hid (fun (W : World) (hW : Below w2.heap.size w2 W) => (show Calls Tryz.prog 35 #[.agg #[.slice A1 n1 k1, .slice A2 n2 k2, .int .i64 q]] W (TreePost W [] [] 0) from by have h9 := specDropPlain_c (TA.out W hW).1 (TA.out W hW).2; rw [hX] at h9; exact h9))
    have CV := hid (fun (W : World) (hW : Below w2.heap.size w2 W) => (show Calls Tryz.prog 15 #[.agg #[.slice A1 n1 k1, .slice A2 n2 k2, .int .i64 q]] W (BoolPost W false) from by have h9 := implValidTreeX_c (TA.out W hW).1 (TA.out W hW).2; rw [hA] at h9; exact h9))
    clear hX hA DX
    refine (CI.out _ HW2.out).mono ?_
    rintro e w3 ⟨v3, rs3, rfl, hs3, hr3, hb⟩
    obtain ⟨A3, n3, k3, A4, n4, k4, rfl, hn3, -⟩ := hs3.form_ hr3
    have hbx3 : Below w3.heap.size w3 (w3.alloc (.cells #[.slice A3 n3 k3, .slice A4 n4 k4, .int .i64 0] 26)) := (Below.refl _ _).alloc (Nat.le_refl _) _
    have TO := hid ((hs3.at_ hr3 fit_noneP).below hbx3 (Nat.le_refl _))
    have KO := hid (Blk.new w3 #[.slice A3 n3 k3, .slice A4 n4 k4, .int .i64 0] 26)
    have HW4 := hid (HW2.out.trans ((hb.trans (hbx3.mono hb.size)).mono HW2.out.size))
    have hlo : w3.heap.size ≤ (w3.alloc (.cells #[.slice A3 n3 k3, .slice A4 n4 k4, .int .i64 0] 26)).heap.size := by simp
    clear hs3 hr3 hb hbx3 d0 d1 d2 hn3
    go_wp2_with fail
    generalize hbo : w3.heap.size = bo at *
    generalize w3.alloc (.cells #[.slice A3 n3 k3, .slice A4 n4 k4, .int .i64 0] 26) = w4 at *
    clear hbo
    have KA4 := hid (KA.out.to HW4.out)
    have TN := hid (fun (W : World) (hO : Below w4.heap.size w4 W) => (And.intro (TO.out.below hO hlo) (Nat.le_trans hlo hO.size)))
    have TM := hid (fun (W : World) (hO : Below w4.heap.size w4 W) => TA.out W (HW4.out.trans (hO.mono HW4.out.size)))
    have SG := hid (fun (W : World) (hO : Below w4.heap.size w4 W) => (show (fun w' : World => (w'.cell? ⟨bo, 0, none⟩ = some (.slice A3 n3 k3) ∧ w'.cell? ⟨bo, 1, none⟩ = some (.slice A4 n4 k4) ∧ w'.cell? ⟨bo, 2, none⟩ = some (.int .i64 0)) ∧ (w'.cell? ⟨ba, 0, none⟩ = some (.slice A1 n1 k1) ∧ w'.cell? ⟨ba, 1, none⟩ = some (.slice A2 n2 k2) ∧ w'.cell? ⟨ba, 2, none⟩ = some (.int .i64 q))) W from ⟨⟨((KO.out.to hO).2 0 _ rfl).1, ((KO.out.to hO).2 1 _ rfl).1, ((KO.out.to hO).2 2 _ rfl).1⟩, ((KA4.out.to hO).2 0 _ rfl).1, ((KA4.out.to hO).2 1 _ rfl).1, ((KA4.out.to hO).2 2 _ rfl).1⟩))
    have HO4 := hid (Below.refl w4.heap.size w4)
    have HOd := hid (HO4.out.drew)
    refine wp_region_held_drew (S := (fun w' : World => (w'.cell? ⟨bo, 0, none⟩ = some (.slice A3 n3 k3) ∧ w'.cell? ⟨bo, 1, none⟩ = some (.slice A4 n4 k4) ∧ w'.cell? ⟨bo, 2, none⟩ = some (.int .i64 0)) ∧ (w'.cell? ⟨ba, 0, none⟩ = some (.slice A1 n1 k1) ∧ w'.cell? ⟨ba, 1, none⟩ = some (.slice A2 n2 k2) ∧ w'.cell? ⟨ba, 2, none⟩ = some (.int .i64 q)))) (by kernel_rfl) (SG.out _ HOd.out) (fun hS => ?_)
    refine wpAnyH_take (i := 0) (oi := ?oi101) (v := ?v101) ?hi101 (by kernel_rfl) ?hf101 ?hr101 ?hQ101 (Or.inl ⟨?hw101, ?hy101⟩) (by assumption) ?rest101
    case hi101 => simp only [List.getElem?_toArray, List.getElem?_cons_succ, List.getElem?_cons_zero]; rfl
    case hf101 => kernel_rfl
    case hr101 => kernel_rfl
    case hw101 => rfl
    case hy101 => (intro w hSw; (try dsimp only at hSw); go_simp; all_goals (first | done | with_reducible rfl))
    case hQ101 => exact fun _ _ _ h => h
    simp only [Act.put, List.setIfInBounds_toArray, List.set_cons_zero, List.set_cons_succ]
    refine wpAnyH_take (i := 1) (oi := ?oi102) (v := ?v102) ?hi102 (by kernel_rfl) ?hf102 ?hr102 ?hQ102 (Or.inl ⟨?hw102, ?hy102⟩) (by assumption) ?rest102
    case hi102 => simp only [List.getElem?_toArray, List.getElem?_cons_succ, List.getElem?_cons_zero]; rfl
    case hf102 => kernel_rfl
    case hr102 => kernel_rfl
    case hw102 => rfl
    case hy102 => (intro w hSw; (try dsimp only at hSw); go_simp; all_goals (first | done | with_reducible rfl))
    case hQ102 => exact fun _ _ _ h => h
    simp only [Act.put, List.setIfInBounds_toArray, List.set_cons_zero, List.set_cons_succ]
    refine wpAnyH_ready (rs := [2]) (by kernel_rfl) (by simp) ?_
    refine AllReadyH.cons (o := ?oi103) ?hi103 (fun K hK => ?step103) AllReadyH.nil
    case hi103 => simp only [List.getElem?_toArray, List.getElem?_cons_succ, List.getElem?_cons_zero]; rfl
    rw [if_pos (by rfl)]
    go_simp
    go_at_call 35
    refine (CS.out _ (HW4.out.trans (HOd.out.mono HW4.out.size))).mono ?_
    rintro e w11 ⟨v11, rs11, rfl, hs11, hr11, hb⟩
    have HO11 := hid (HOd.out.trans (hb.mono HOd.out.size))
    obtain ⟨P1, pn1, pk1, P2, pn2, pk2, rfl, -, -⟩ := hs11.form_ hr11
    have CQ := hid (equalTree_c (TN.out _ HO11.out).1 (hs11.at_ hr11 fit_noneP) (TN.out _ HO11.out).2 (Nat.le_refl _))
    clear hs11 hr11
    clear hb
    refine hK.out _ _ (SG.out _ HO11.out) (fun hS => ?_)
    refine wpAnyH_ready (rs := [3]) (by kernel_rfl) (by simp) ?_
    refine AllReadyH.cons (o := ?oi104) ?hi104 (fun K hK => ?step104) AllReadyH.nil
    case hi104 => simp only [List.getElem?_toArray, List.getElem?_cons_succ, List.getElem?_cons_zero]; rfl
    rw [if_pos (by rfl)]
    go_simp
    go_at_call 30
    refine (CQ.out).mono ?_
    rintro e w12 ⟨rfl, hb⟩
    have HO12 := hid (HO11.out.trans (hb.mono HO11.out.size))
    clear hb
    refine hK.out _ _ (SG.out _ HO12.out) (fun hS => ?_)
    refine wpAnyH_take (i := 4) (oi := ?oi105) (v := ?v105) ?hi105 (by kernel_rfl) ?hf105 ?hr105 ?hQ105 (Or.inl ⟨?hw105, ?hy105⟩) (by assumption) ?rest105
    case hi105 => simp only [List.getElem?_toArray, List.getElem?_cons_succ, List.getElem?_cons_zero]; rfl
    case hf105 => kernel_rfl
    case hr105 => kernel_rfl
    case hw105 => rfl
    case hy105 => (intro w hSw; (try dsimp only at hSw); go_simp; all_goals (first | done | with_reducible rfl))
    case hQ105 => exact fun _ _ _ h => h
    simp only [Act.put, List.setIfInBounds_toArray, List.set_cons_zero, List.set_cons_succ]
    refine wpAnyH_take (i := 5) (oi := ?oi106) (v := ?v106) ?hi106 (by kernel_rfl) ?hf106 ?hr106 ?hQ106 (Or.inl ⟨?hw106, ?hy106⟩) (by assumption) ?rest106
    case hi106 => simp only [List.getElem?_toArray, List.getElem?_cons_succ, List.getElem?_cons_zero]; rfl
    case hf106 => kernel_rfl
    case hr106 => kernel_rfl
    case hw106 => rfl
    case hy106 => (intro w hSw; (try dsimp only at hSw); go_simp; all_goals (first | done | with_reducible rfl))
    case hQ106 => exact fun _ _ _ h => h
    simp only [Act.put, List.setIfInBounds_toArray, List.set_cons_zero, List.set_cons_succ]
    refine wpAnyH_take (i := 6) (oi := ?oi107) (v := ?v107) ?hi107 (by kernel_rfl) ?hf107 ?hr107 ?hQ107 (Or.inl ⟨?hw107, ?hy107⟩) (by assumption) ?rest107
    case hi107 => simp only [List.getElem?_toArray, List.getElem?_cons_succ, List.getElem?_cons_zero]; rfl
    case hf107 => kernel_rfl
    case hr107 => kernel_rfl
    case hw107 => rfl
    case hy107 => (intro w hSw; (try dsimp only at hSw); go_simp; all_goals (first | done | with_reducible rfl))
    case hQ107 => exact fun _ _ _ h => h
    simp only [Act.put, List.setIfInBounds_toArray, List.set_cons_zero, List.set_cons_succ]
    refine wpAnyH_ready (rs := [7]) (by kernel_rfl) (by simp) ?_
    refine AllReadyH.cons (o := ?oi108) ?hi108 (fun K hK => ?step108) AllReadyH.nil
    case hi108 => simp only [List.getElem?_toArray, List.getElem?_cons_succ, List.getElem?_cons_zero]; rfl
    rw [if_pos (by rfl)]
    go_simp
    go_at_call 15
    refine (CV.out _ (HW4.out.trans (HO12.out.mono HW4.out.size))).mono ?_
    rintro e w13 ⟨rfl, hb⟩
    have HO13 := hid (HO12.out.trans (hb.mono HO12.out.size))
    clear hb
    refine hK.out _ _ (SG.out _ HO13.out) (fun hS => ?_)
    refine wpAnyH_take (i := 8) (oi := ?oi109) (v := ?v109) ?hi109 (by kernel_rfl) ?hf109 ?hr109 ?hQ109 (Or.inl ⟨?hw109, ?hy109⟩) (by assumption) ?rest109
    case hi109 => simp only [List.getElem?_toArray, List.getElem?_cons_succ, List.getElem?_cons_zero]; rfl
    case hf109 => kernel_rfl
    case hr109 => kernel_rfl
    case hw109 => rfl
    case hy109 => (intro w hSw; (try dsimp only at hSw); go_simp; all_goals (first | done | with_reducible rfl))
    case hQ109 => exact fun _ _ _ h => h
    simp only [Act.put, List.setIfInBounds_toArray, List.set_cons_zero, List.set_cons_succ]
    refine wpAnyH_take (i := 9) (oi := ?oi110) (v := ?v110) ?hi110 (by kernel_rfl) ?hf110 ?hr110 ?hQ110 (Or.inl ⟨?hw110, ?hy110⟩) (by assumption) ?rest110
    case hi110 => simp only [List.getElem?_toArray, List.getElem?_cons_succ, List.getElem?_cons_zero]; rfl
    case hf110 => kernel_rfl
    case hr110 => kernel_rfl
    case hw110 => rfl
    case hy110 => (intro w hSw; (try dsimp only at hSw); go_simp; all_goals (first | done | with_reducible rfl))
    case hQ110 => exact fun _ _ _ h => h
    simp only [Act.put, List.setIfInBounds_toArray, List.set_cons_zero, List.set_cons_succ]
    refine wpAnyH_done (by kernel_rfl) ?_ _
    clear hS CQ
    go_wp2_with fail
    have HOe := hid (HO13.out.drew)
    refine wp_region_held_drew (S := (fun w' : World => (w'.cell? ⟨bo, 0, none⟩ = some (.slice A3 n3 k3) ∧ w'.cell? ⟨bo, 1, none⟩ = some (.slice A4 n4 k4) ∧ w'.cell? ⟨bo, 2, none⟩ = some (.int .i64 0)) ∧ (w'.cell? ⟨ba, 0, none⟩ = some (.slice A1 n1 k1) ∧ w'.cell? ⟨ba, 1, none⟩ = some (.slice A2 n2 k2) ∧ w'.cell? ⟨ba, 2, none⟩ = some (.int .i64 q)))) (by kernel_rfl) (SG.out _ HOe.out) (fun hS => ?_)
    refine wpAnyH_take (i := 0) (oi := ?oi111) (v := ?v111) ?hi111 (by kernel_rfl) ?hf111 ?hr111 ?hQ111 (Or.inl ⟨?hw111, ?hy111⟩) (by assumption) ?rest111
    case hi111 => simp only [List.getElem?_toArray, List.getElem?_cons_succ, List.getElem?_cons_zero]; rfl
    case hf111 => kernel_rfl
    case hr111 => kernel_rfl
    case hw111 => rfl
    case hy111 => (intro w hSw; (try dsimp only at hSw); go_simp; all_goals (first | done | with_reducible rfl))
    case hQ111 => exact fun _ _ _ h => h
    simp only [Act.put, List.setIfInBounds_toArray, List.set_cons_zero, List.set_cons_succ]
    refine wpAnyH_take (i := 1) (oi := ?oi112) (v := ?v112) ?hi112 (by kernel_rfl) ?hf112 ?hr112 ?hQ112 (Or.inl ⟨?hw112, ?hy112⟩) (by assumption) ?rest112
    case hi112 => simp only [List.getElem?_toArray, List.getElem?_cons_succ, List.getElem?_cons_zero]; rfl
    case hf112 => kernel_rfl
    case hr112 => kernel_rfl
    case hw112 => rfl
    case hy112 => (intro w hSw; (try dsimp only at hSw); go_simp; all_goals (first | done | with_reducible rfl))
    case hQ112 => exact fun _ _ _ h => h
    simp only [Act.put, List.setIfInBounds_toArray, List.set_cons_zero, List.set_cons_succ]
    refine wpAnyH_ready (rs := [2]) (by kernel_rfl) (by simp) ?_
    refine AllReadyH.cons (o := ?oi113) ?hi113 (fun K hK => ?step113) AllReadyH.nil
    case hi113 => simp only [List.getElem?_toArray, List.getElem?_cons_succ, List.getElem?_cons_zero]; rfl
    rw [if_pos (by rfl)]
    go_simp
    go_at_call 35
    refine (CS.out _ (HW4.out.trans (HOe.out.mono HW4.out.size))).mono ?_
    rintro e w21 ⟨v21, rs21, rfl, hs21, hr21, hb⟩
    have HO21 := hid (HOe.out.trans (hb.mono HOe.out.size))
    obtain ⟨P3, pn3, pk3, P4, pn4, pk4, rfl, -, -⟩ := hs21.form_ hr21
    have CQ2 := hid (equalTree_c (TN.out _ HO21.out).1 (hs21.at_ hr21 fit_noneP) (TN.out _ HO21.out).2 (Nat.le_refl _))
    clear hs21 hr21
    clear hb
    refine hK.out _ _ (SG.out _ HO21.out) (fun hS => ?_)
    refine wpAnyH_ready (rs := [3]) (by kernel_rfl) (by simp) ?_
    refine AllReadyH.cons (o := ?oi114) ?hi114 (fun K hK => ?step114) AllReadyH.nil
    case hi114 => simp only [List.getElem?_toArray, List.getElem?_cons_succ, List.getElem?_cons_zero]; rfl
    rw [if_pos (by rfl)]
    go_simp
    go_at_call 30
    refine (CQ2.out).mono ?_
    rintro e w22 ⟨rfl, hb⟩
    have HO22 := hid (HO21.out.trans (hb.mono HO21.out.size))
    clear hb
    refine hK.out _ _ (SG.out _ HO22.out) (fun hS => ?_)
    refine wpAnyH_take (i := 4) (oi := ?oi115) (v := ?v115) ?hi115 (by kernel_rfl) ?hf115 ?hr115 ?hQ115 (Or.inl ⟨?hw115, ?hy115⟩) (by assumption) ?rest115
    case hi115 => simp only [List.getElem?_toArray, List.getElem?_cons_succ, List.getElem?_cons_zero]; rfl
    case hf115 => kernel_rfl
    case hr115 => kernel_rfl
    case hw115 => rfl
    case hy115 => (intro w hSw; (try dsimp only at hSw); go_simp; all_goals (first | done | with_reducible rfl))
    case hQ115 => exact fun _ _ _ h => h
    simp only [Act.put, List.setIfInBounds_toArray, List.set_cons_zero, List.set_cons_succ]
    refine wpAnyH_done (by kernel_rfl) ?_ _
    clear hS
    go_wp2_with fail
    go_ret
    exact ⟨rfl, HB.out.trans ((HW4.out.trans (HO22.out.mono HW4.out.size)).mono HB.out.size)⟩
  | true =>
    have hX := dropP_some hA
    have hA2 := dropP_ok hA
    have hX2 : dropPX (L.filter keepL) H q = some (L.filter keepL, H, q) := by rw [dropP_some hA2, drop_twice]
    have HSn := hid (fun (r : Rec) => drop_send hA r)
    have HLv := hid (fun (x : Name) => drop_level hA x)
    have DX2 : dataFit (L.filter keepL) H := by have h9 := DX.out; rw [hX] at h9; exact h9
    have HNs := hid (show ∀ x ∈ nsOf L ++ plainTail, x.length ≤ 20 from fun x hx => by
      rcases List.mem_append.1 hx with hx | hx
      · obtain ⟨l, hl, rfl⟩ := List.mem_map.1 hx
        exact (HL.out.2.1.2 l hl).1
      · simp only [plainTail, List.mem_cons, List.not_mem_nil, or_false] at hx
        rcases hx with rfl | rfl <;> simp)
    have hL8 := HL.out.2.1.1
    have hN8 : (nsOf L).length ≤ 8 := by have : (nsOf L).length = L.length := by simp [nsOf]
                                         omega
    generalize L.filter keepL = L2 at *
    have CI := hid (fun (W : World) (hW : Below w2.heap.size w2 W) => (show Calls Tryz.prog 34 #[.agg #[.slice A1 n1 k1, .slice A2 n2 k2, .int .i64 q]] W (TreePost W L2 H q) from by have h9 := implDropPlain_c (TA.out W hW).1 (TA.out W hW).2; rw [hX] at h9; exact h9))
    have CS := hid (fun (W : World) (hW : Below w2.heap.size w2 W) => (show Calls Tryz.prog 35 #[.agg #[.slice A1 n1 k1, .slice A2 n2 k2, .int .i64 q]] W (TreePost W L2 H q) from by have h9 := specDropPlain_c (TA.out W hW).1 (TA.out W hW).2; rw [hX] at h9; exact h9))
    have CV := hid (fun (W : World) (hW : Below w2.heap.size w2 W) => (show Calls Tryz.prog 15 #[.agg #[.slice A1 n1 k1, .slice A2 n2 k2, .int .i64 q]] W (BoolPost W true) from by have h9 := implValidTreeX_c (TA.out W hW).1 (TA.out W hW).2; rw [hA] at h9; exact h9))
    replace hX2 := hid hX2
    replace hA2 := hid hA2
    replace DX2 := hid DX2
    clear hX hA DX
    refine (CI.out _ HW2.out).mono ?_
    rintro e w3 ⟨v3, rs3, rfl, hs3, hr3, hb⟩
    obtain ⟨A3, n3, k3, A4, n4, k4, rfl, hn3, -⟩ := hs3.form_ hr3
    have hbx3 : Below w3.heap.size w3 (w3.alloc (.cells #[.slice A3 n3 k3, .slice A4 n4 k4, .int .i64 q] 26)) := (Below.refl _ _).alloc (Nat.le_refl _) _
    have TO := hid ((hs3.at_ hr3 DX2.out).below hbx3 (Nat.le_refl _))
    have KO := hid (Blk.new w3 #[.slice A3 n3 k3, .slice A4 n4 k4, .int .i64 q] 26)
    have HW4 := hid (HW2.out.trans ((hb.trans (hbx3.mono hb.size)).mono HW2.out.size))
    have hlo : w3.heap.size ≤ (w3.alloc (.cells #[.slice A3 n3 k3, .slice A4 n4 k4, .int .i64 q] 26)).heap.size := by simp
    clear hs3 hr3 hb hbx3 d0 d1 d2 hn3
    go_wp2_with fail
    generalize hbo : w3.heap.size = bo at *
    generalize w3.alloc (.cells #[.slice A3 n3 k3, .slice A4 n4 k4, .int .i64 q] 26) = w4 at *
    clear hbo
    have KA4 := hid (KA.out.to HW4.out)
    have TN := hid (fun (W : World) (hO : Below w4.heap.size w4 W) => (And.intro (TO.out.below hO hlo) (Nat.le_trans hlo hO.size)))
    have TM := hid (fun (W : World) (hO : Below w4.heap.size w4 W) => TA.out W (HW4.out.trans (hO.mono HW4.out.size)))
    have SG := hid (fun (W : World) (hO : Below w4.heap.size w4 W) => (show (fun w' : World => (w'.cell? ⟨bo, 0, none⟩ = some (.slice A3 n3 k3) ∧ w'.cell? ⟨bo, 1, none⟩ = some (.slice A4 n4 k4) ∧ w'.cell? ⟨bo, 2, none⟩ = some (.int .i64 q)) ∧ (w'.cell? ⟨ba, 0, none⟩ = some (.slice A1 n1 k1) ∧ w'.cell? ⟨ba, 1, none⟩ = some (.slice A2 n2 k2) ∧ w'.cell? ⟨ba, 2, none⟩ = some (.int .i64 q))) W from ⟨⟨((KO.out.to hO).2 0 _ rfl).1, ((KO.out.to hO).2 1 _ rfl).1, ((KO.out.to hO).2 2 _ rfl).1⟩, ((KA4.out.to hO).2 0 _ rfl).1, ((KA4.out.to hO).2 1 _ rfl).1, ((KA4.out.to hO).2 2 _ rfl).1⟩))
    have HO4 := hid (Below.refl w4.heap.size w4)
    have HOd := hid (HO4.out.drew)
    refine wp_region_held_drew (S := (fun w' : World => (w'.cell? ⟨bo, 0, none⟩ = some (.slice A3 n3 k3) ∧ w'.cell? ⟨bo, 1, none⟩ = some (.slice A4 n4 k4) ∧ w'.cell? ⟨bo, 2, none⟩ = some (.int .i64 q)) ∧ (w'.cell? ⟨ba, 0, none⟩ = some (.slice A1 n1 k1) ∧ w'.cell? ⟨ba, 1, none⟩ = some (.slice A2 n2 k2) ∧ w'.cell? ⟨ba, 2, none⟩ = some (.int .i64 q)))) (by kernel_rfl) (SG.out _ HOd.out) (fun hS => ?_)
    refine wpAnyH_take (i := 0) (oi := ?oi116) (v := ?v116) ?hi116 (by kernel_rfl) ?hf116 ?hr116 ?hQ116 (Or.inl ⟨?hw116, ?hy116⟩) (by assumption) ?rest116
    case hi116 => simp only [List.getElem?_toArray, List.getElem?_cons_succ, List.getElem?_cons_zero]; rfl
    case hf116 => kernel_rfl
    case hr116 => kernel_rfl
    case hw116 => rfl
    case hy116 => (intro w hSw; (try dsimp only at hSw); go_simp; all_goals (first | done | with_reducible rfl))
    case hQ116 => exact fun _ _ _ h => h
    simp only [Act.put, List.setIfInBounds_toArray, List.set_cons_zero, List.set_cons_succ]
    refine wpAnyH_take (i := 1) (oi := ?oi117) (v := ?v117) ?hi117 (by kernel_rfl) ?hf117 ?hr117 ?hQ117 (Or.inl ⟨?hw117, ?hy117⟩) (by assumption) ?rest117
    case hi117 => simp only [List.getElem?_toArray, List.getElem?_cons_succ, List.getElem?_cons_zero]; rfl
    case hf117 => kernel_rfl
    case hr117 => kernel_rfl
    case hw117 => rfl
    case hy117 => (intro w hSw; (try dsimp only at hSw); go_simp; all_goals (first | done | with_reducible rfl))
    case hQ117 => exact fun _ _ _ h => h
    simp only [Act.put, List.setIfInBounds_toArray, List.set_cons_zero, List.set_cons_succ]
    refine wpAnyH_ready (rs := [2]) (by kernel_rfl) (by simp) ?_
    refine AllReadyH.cons (o := ?oi118) ?hi118 (fun K hK => ?step118) AllReadyH.nil
    case hi118 => simp only [List.getElem?_toArray, List.getElem?_cons_succ, List.getElem?_cons_zero]; rfl
    rw [if_pos (by rfl)]
    go_simp
    go_at_call 35
    refine (CS.out _ (HW4.out.trans (HOd.out.mono HW4.out.size))).mono ?_
    rintro e w11 ⟨v11, rs11, rfl, hs11, hr11, hb⟩
    have HO11 := hid (HOd.out.trans (hb.mono HOd.out.size))
    obtain ⟨P1, pn1, pk1, P2, pn2, pk2, rfl, -, -⟩ := hs11.form_ hr11
    have CQ := hid (equalTree_c (TN.out _ HO11.out).1 (hs11.at_ hr11 DX2.out) (TN.out _ HO11.out).2 (Nat.le_refl _))
    clear hs11 hr11
    clear hb
    refine hK.out _ _ (SG.out _ HO11.out) (fun hS => ?_)
    refine wpAnyH_ready (rs := [3]) (by kernel_rfl) (by simp) ?_
    refine AllReadyH.cons (o := ?oi119) ?hi119 (fun K hK => ?step119) AllReadyH.nil
    case hi119 => simp only [List.getElem?_toArray, List.getElem?_cons_succ, List.getElem?_cons_zero]; rfl
    rw [if_pos (by rfl)]
    go_simp
    go_at_call 30
    refine (CQ.out).mono ?_
    rintro e w12 ⟨rfl, hb⟩
    have HO12 := hid (HO11.out.trans (hb.mono HO11.out.size))
    clear hb
    refine hK.out _ _ (SG.out _ HO12.out) (fun hS => ?_)
    refine wpAnyH_take (i := 4) (oi := ?oi120) (v := ?v120) ?hi120 (by kernel_rfl) ?hf120 ?hr120 ?hQ120 (Or.inl ⟨?hw120, ?hy120⟩) (by assumption) ?rest120
    case hi120 => simp only [List.getElem?_toArray, List.getElem?_cons_succ, List.getElem?_cons_zero]; rfl
    case hf120 => kernel_rfl
    case hr120 => kernel_rfl
    case hw120 => rfl
    case hy120 => (intro w hSw; (try dsimp only at hSw); go_simp; all_goals (first | done | with_reducible rfl))
    case hQ120 => exact fun _ _ _ h => h
    simp only [Act.put, List.setIfInBounds_toArray, List.set_cons_zero, List.set_cons_succ]
    refine wpAnyH_take (i := 5) (oi := ?oi121) (v := ?v121) ?hi121 (by kernel_rfl) ?hf121 ?hr121 ?hQ121 (Or.inl ⟨?hw121, ?hy121⟩) (by assumption) ?rest121
    case hi121 => simp only [List.getElem?_toArray, List.getElem?_cons_succ, List.getElem?_cons_zero]; rfl
    case hf121 => kernel_rfl
    case hr121 => kernel_rfl
    case hw121 => rfl
    case hy121 => (intro w hSw; (try dsimp only at hSw); go_simp; all_goals (first | done | with_reducible rfl))
    case hQ121 => exact fun _ _ _ h => h
    simp only [Act.put, List.setIfInBounds_toArray, List.set_cons_zero, List.set_cons_succ]
    refine wpAnyH_take (i := 6) (oi := ?oi122) (v := ?v122) ?hi122 (by kernel_rfl) ?hf122 ?hr122 ?hQ122 (Or.inl ⟨?hw122, ?hy122⟩) (by assumption) ?rest122
    case hi122 => simp only [List.getElem?_toArray, List.getElem?_cons_succ, List.getElem?_cons_zero]; rfl
    case hf122 => kernel_rfl
    case hr122 => kernel_rfl
    case hw122 => rfl
    case hy122 => (intro w hSw; (try dsimp only at hSw); go_simp; all_goals (first | done | with_reducible rfl))
    case hQ122 => exact fun _ _ _ h => h
    simp only [Act.put, List.setIfInBounds_toArray, List.set_cons_zero, List.set_cons_succ]
    refine wpAnyH_ready (rs := [7]) (by kernel_rfl) (by simp) ?_
    refine AllReadyH.cons (o := ?oi123) ?hi123 (fun K hK => ?step123) AllReadyH.nil
    case hi123 => simp only [List.getElem?_toArray, List.getElem?_cons_succ, List.getElem?_cons_zero]; rfl
    rw [if_pos (by rfl)]
    go_simp
    go_at_call 15
    refine (CV.out _ (HW4.out.trans (HO12.out.mono HW4.out.size))).mono ?_
    rintro e w13 ⟨rfl, hb⟩
    have HO13 := hid (HO12.out.trans (hb.mono HO12.out.size))
    clear hb
    refine hK.out _ _ (SG.out _ HO13.out) (fun hS => ?_)
    refine wpAnyH_take (i := 8) (oi := ?oi124) (v := ?v124) ?hi124 (by kernel_rfl) ?hf124 ?hr124 ?hQ124 (Or.inl ⟨?hw124, ?hy124⟩) (by assumption) ?rest124
    case hi124 => simp only [List.getElem?_toArray, List.getElem?_cons_succ, List.getElem?_cons_zero]; rfl
    case hf124 => kernel_rfl
    case hr124 => kernel_rfl
    case hw124 => rfl
    case hy124 => (intro w hSw; (try dsimp only at hSw); go_simp; all_goals (first | done | with_reducible rfl))
    case hQ124 => exact fun _ _ _ h => h
    simp only [Act.put, List.setIfInBounds_toArray, List.set_cons_zero, List.set_cons_succ]
    refine wpAnyH_take (i := 9) (oi := ?oi125) (v := ?v125) ?hi125 (by kernel_rfl) ?hf125 ?hr125 ?hQ125 (Or.inl ⟨?hw125, ?hy125⟩) (by assumption) ?rest125
    case hi125 => simp only [List.getElem?_toArray, List.getElem?_cons_succ, List.getElem?_cons_zero]; rfl
    case hf125 => kernel_rfl
    case hr125 => kernel_rfl
    case hw125 => rfl
    case hy125 => (intro w hSw; (try dsimp only at hSw); go_simp; all_goals (first | done | with_reducible rfl))
    case hQ125 => exact fun _ _ _ h => h
    simp only [Act.put, List.setIfInBounds_toArray, List.set_cons_zero, List.set_cons_succ]
    refine wpAnyH_done (by kernel_rfl) ?_ _
    clear hS CQ
    have CN := hid (lawNames_c (TM.out _ HO13.out).1 (TM.out _ HO13.out).2 hL8)
    have CO := hid (fun (W : World) (hO : Below w4.heap.size w4 W) => (show Calls Tryz.prog 34 #[.agg #[.slice A3 n3 k3, .slice A4 n4 k4, .int .i64 q]] W (TreePost W L2 H q) from by have h9 := implDropPlain_c (TN.out W hO).1 (TN.out W hO).2; rw [hX2.out] at h9; exact h9))
    have CW := hid (fun (W : World) (hO : Below w4.heap.size w4 W) => (show Calls Tryz.prog 15 #[.agg #[.slice A3 n3 k3, .slice A4 n4 k4, .int .i64 q]] W (BoolPost W true) from by have h9 := implValidTreeX_c (TN.out W hO).1 (TN.out W hO).2; rw [hA2.out] at h9; exact h9))
    obtain ⟨⟨o0, o1, o2⟩, d0, d1, d2⟩ := SG.out _ HO13.out
    clear CI CS CV
    go_wp2_with fail
    refine CN.out.mono ?_
    rintro e w14 ⟨v14, rfl, ho14, hb⟩
    have HO14 := hid (HO13.out.trans (hb.mono HO13.out.size))
    have hs14 : w13.heap.size ≤ w14.heap.size := hb.size
    have O14 := hid ho14
    obtain ⟨i0, hi9, hz0, hz1, hz2⟩ := info_parts Tryz.infoStr
    have hlit := plainTail_lit w14
    have HLit := hid hlit
    have hbl : Below w14.heap.size w14 (w14.alloc (.cells #[.string ⟨#[97, 46, 98, 46, 99]⟩, .string ⟨#[122]⟩] 9)) := (Below.refl _ _).alloc (Nat.le_refl _) _
    have HBl := hid hbl
    clear hb ho14 CN o0 o1 o2 d0 d1 d2 hlit hbl
    go_wp2_with (at_builtin; refine wpList_appSl _ rfl _ _ 62 rfl w13.heap.size 9 i0 _ 1 16 Tryz.underlying62 hi9 hz0 hz1 hz2 rfl (by decide) v14 (nsOf L).length _ (by rfl) (own_below O14.out HBl.out) _ 2 _ _ (by rfl) HLit.out (txts_one plainTail) (by unfold maxLen; omega) (by omega) (Nat.le_trans hs14 HBl.out.size) ?_)
    intro v15 w15 ho15 hb
    have HO15 := hid (HO14.out.trans ((HBl.out.mono (Nat.le_trans HO13.out.size hs14)).trans (hb.mono HO13.out.size)))
    rw [show (nsOf L).map txt ++ plainTail.map txt = (nsOf L ++ plainTail).map txt by rw [List.map_append]] at ho15
    obtain ⟨A5, c5, rfl, hmc, hcm5⟩ := (Sl.of_own ho15).form
    unfold maxLen at hcm5
    have SL := hid (Sl.of_own ho15)
    generalize nsOf L ++ plainTail = NS at SL HNs ho15
    generalize hmm : (nsOf L).length + 2 = m at *
    have hm10 : m ≤ 10 := by omega
    clear hb ho15 hi9 hz0 hz1 hz2 hs14 O14 HLit HBl
    go_wp2_with fail
    go_loopw [6] (fun iv wr => ∃ (k : Nat), iv = .int .i64 k ∧ k ≤ m ∧ Hid (Below w15.heap.size w15 wr)) (fun iv _ => m - (intOf iv).toNat)
    case atStart => exact ⟨0, rfl, by omega, Below.refl _ _⟩
    case round =>
      obtain ⟨k, rfl, hk, HBr⟩ := hrel
      have HOr := hid (HO15.out.trans (HBr.out.mono HO15.out.size))
      by_cases hlt : k < m
      · obtain ⟨b, o, p, rfl, hbB, hx, c0⟩ := (SL.out.below HBr.out (Nat.le_refl _)).text hlt
        have hp20 : p.size ≤ 20 := by rw [Lib.size_eq]; exact HNs.out _ (List.mem_of_getElem? hx)
        have s0 : (0 : Int) ≤ (k : Int) := by omega
        have s1 : (k : Int) < (m : Int) := by omega
        have s2 : ((k : Int)).toNat = k := by simp
        have KR := hid (Blk.new wr #[.string p, .int .i64 30, .string ⟨#[120]⟩, .int .i64 0] 28)
        have hbq : Below wr.heap.size wr (wr.alloc (.cells #[.string p, .int .i64 30, .string ⟨#[120]⟩, .int .i64 0] 28)) := (Below.refl _ _).alloc (Nat.le_refl _) _
        have HBq := hid (HBr.out.trans (hbq.mono HBr.out.size))
        have HOq := hid (HOr.out.trans (hbq.mono HOr.out.size))
        have hcq : (wr.alloc (.cells #[.string p, .int .i64 30, .string ⟨#[120]⟩, .int .i64 0] 28)).cell? ⟨b, o + k, none⟩ = some (.string p) := (hbq.cell (p := ⟨b, o + k, none⟩) (World.block_lt_of_cell? _ _ c0)).trans c0
        have hbw : b < (wr.alloc (.cells #[.string p, .int .i64 30, .string ⟨#[120]⟩, .int .i64 0] 28)).heap.size := World.block_lt_of_cell? _ _ hcq
        replace hcq := hid hcq
        clear hx hbq
        go_wp2_with fail
        generalize hrb : wr.heap.size = rb at *
        generalize wr.alloc (.cells #[.string p, .int .i64 30, .string ⟨#[120]⟩, .int .i64 0] 28) = wq at *
        clear hrb c0
        have SR := hid (fun (W : World) (hO : Below wq.heap.size wq W) => (show (fun w' : World => ((w'.cell? ⟨bo, 0, none⟩ = some (.slice A3 n3 k3) ∧ w'.cell? ⟨bo, 1, none⟩ = some (.slice A4 n4 k4) ∧ w'.cell? ⟨bo, 2, none⟩ = some (.int .i64 q)) ∧ (w'.cell? ⟨ba, 0, none⟩ = some (.slice A1 n1 k1) ∧ w'.cell? ⟨ba, 1, none⟩ = some (.slice A2 n2 k2) ∧ w'.cell? ⟨ba, 2, none⟩ = some (.int .i64 q))) ∧ (w'.cell? ⟨rb, 0, none⟩ = some (.string p) ∧ w'.cell? ⟨rb, 1, none⟩ = some (.int .i64 30) ∧ w'.cell? ⟨rb, 2, none⟩ = some (.string ⟨#[120]⟩) ∧ w'.cell? ⟨rb, 3, none⟩ = some (.int .i64 0)) ∧ w'.cell? ⟨b, o + k, none⟩ = some (.string p)) W from ⟨SG.out W (HOq.out.trans (hO.mono HOq.out.size)), ⟨((KR.out.to hO).2 0 _ rfl).1, ((KR.out.to hO).2 1 _ rfl).1, ((KR.out.to hO).2 2 _ rfl).1, ((KR.out.to hO).2 3 _ rfl).1⟩, (hO.cell (p := ⟨b, o + k, none⟩) hbw).trans hcq.out⟩))
        obtain ⟨X, hX⟩ : ∃ X, sendX L H q ⟨p.data.toList, 30, (⟨#[120]⟩ : ByteArray).data.toList, 0⟩ = X := ⟨_, rfl⟩
        have C1 := hid (fun (W : World) (hO : Below wq.heap.size wq W) => (show Calls Tryz.prog 12 #[.agg #[.slice A3 n3 k3, .slice A4 n4 k4, .int .i64 q], .agg #[.string p, .int .i64 30, .string ⟨#[120]⟩, .int .i64 0]] W (RowPost W 41 6 X.length (X.flatMap sncells)) from by
          have h9 := implSendRecord_c p ⟨#[120]⟩ 30 0 (TN.out W (HOq.out.trans (hO.mono HOq.out.size))).1 (TN.out W (HOq.out.trans (hO.mono HOq.out.size))).2 (by omega) (by decide)
          rw [HSn.out, hX] at h9
          exact h9))
        have C2 := hid (fun (W : World) (hO : Below wq.heap.size wq W) => (show Calls Tryz.prog 12 #[.agg #[.slice A1 n1 k1, .slice A2 n2 k2, .int .i64 q], .agg #[.string p, .int .i64 30, .string ⟨#[120]⟩, .int .i64 0]] W (RowPost W 41 6 X.length (X.flatMap sncells)) from by
          have h9 := implSendRecord_c p ⟨#[120]⟩ 30 0 (TM.out W (HOq.out.trans (hO.mono HOq.out.size))).1 (TM.out W (HOq.out.trans (hO.mono HOq.out.size))).2 (by omega) (by decide)
          rw [hX] at h9
          exact h9))
        have E1 := hid (fun (W : World) (hO : Below wq.heap.size wq W) => (show Calls Tryz.prog 37 #[.agg #[.slice A3 n3 k3, .slice A4 n4 k4, .int .i64 q], .string p] W (fun e w' => e = .returned (.int .i64 (levelT L H q p.data.toList)) ∧ Below W.heap.size W w') from by
          have h9 := implEffectiveLevel_c p (TN.out W (HOq.out.trans (hO.mono HOq.out.size))).1 (TN.out W (HOq.out.trans (hO.mono HOq.out.size))).2 (by unfold maxLen; omega)
          rw [HLv.out] at h9
          exact h9))
        have E2 := hid (fun (W : World) (hO : Below wq.heap.size wq W) => implEffectiveLevel_c p (TM.out W (HOq.out.trans (hO.mono HOq.out.size))).1 (TM.out W (HOq.out.trans (hO.mono HOq.out.size))).2 (by unfold maxLen; omega))
        generalize levelT L H q p.data.toList = z at E1 E2
        have hzz : (z == z) = true := by simp
        have HQ0 := hid (Below.refl wq.heap.size wq)
        have HQd := hid (HQ0.out.drew)
        clear hX
        refine wp_region_held_drew (S := (fun w' : World => ((w'.cell? ⟨bo, 0, none⟩ = some (.slice A3 n3 k3) ∧ w'.cell? ⟨bo, 1, none⟩ = some (.slice A4 n4 k4) ∧ w'.cell? ⟨bo, 2, none⟩ = some (.int .i64 q)) ∧ (w'.cell? ⟨ba, 0, none⟩ = some (.slice A1 n1 k1) ∧ w'.cell? ⟨ba, 1, none⟩ = some (.slice A2 n2 k2) ∧ w'.cell? ⟨ba, 2, none⟩ = some (.int .i64 q))) ∧ (w'.cell? ⟨rb, 0, none⟩ = some (.string p) ∧ w'.cell? ⟨rb, 1, none⟩ = some (.int .i64 30) ∧ w'.cell? ⟨rb, 2, none⟩ = some (.string ⟨#[120]⟩) ∧ w'.cell? ⟨rb, 3, none⟩ = some (.int .i64 0)) ∧ w'.cell? ⟨b, o + k, none⟩ = some (.string p))) (by kernel_rfl) (SR.out _ HQd.out) (fun hS => ?_)
        refine wpAnyH_take (i := 0) (oi := ?oi126) (v := ?v126) ?hi126 (by kernel_rfl) ?hf126 ?hr126 ?hQ126 (Or.inl ⟨?hw126, ?hy126⟩) (by assumption) ?rest126
        case hi126 => simp only [List.getElem?_toArray, List.getElem?_cons_succ, List.getElem?_cons_zero]; rfl
        case hf126 => kernel_rfl
        case hr126 => kernel_rfl
        case hw126 => rfl
        case hy126 => (intro w hSw; (try dsimp only at hSw); go_simp; all_goals (first | done | with_reducible rfl))
        case hQ126 => exact fun _ _ _ h => h
        simp only [Act.put, List.setIfInBounds_toArray, List.set_cons_zero, List.set_cons_succ]
        refine wpAnyH_take (i := 1) (oi := ?oi127) (v := ?v127) ?hi127 (by kernel_rfl) ?hf127 ?hr127 ?hQ127 (Or.inl ⟨?hw127, ?hy127⟩) (by assumption) ?rest127
        case hi127 => simp only [List.getElem?_toArray, List.getElem?_cons_succ, List.getElem?_cons_zero]; rfl
        case hf127 => kernel_rfl
        case hr127 => kernel_rfl
        case hw127 => rfl
        case hy127 => (intro w hSw; (try dsimp only at hSw); go_simp; all_goals (first | done | with_reducible rfl))
        case hQ127 => exact fun _ _ _ h => h
        simp only [Act.put, List.setIfInBounds_toArray, List.set_cons_zero, List.set_cons_succ]
        refine wpAnyH_take (i := 3) (oi := ?oi128) (v := ?v128) ?hi128 (by kernel_rfl) ?hf128 ?hr128 ?hQ128 (Or.inl ⟨?hw128, ?hy128⟩) (by assumption) ?rest128
        case hi128 => simp only [List.getElem?_toArray, List.getElem?_cons_succ, List.getElem?_cons_zero]; rfl
        case hf128 => kernel_rfl
        case hr128 => kernel_rfl
        case hw128 => rfl
        case hy128 => (intro w hSw; (try dsimp only at hSw); go_simp; all_goals (first | done | with_reducible rfl))
        case hQ128 => exact fun _ _ _ h => h
        simp only [Act.put, List.setIfInBounds_toArray, List.set_cons_zero, List.set_cons_succ]
        refine wpAnyH_take (i := 4) (oi := ?oi129) (v := ?v129) ?hi129 (by kernel_rfl) ?hf129 ?hr129 ?hQ129 (Or.inl ⟨?hw129, ?hy129⟩) (by assumption) ?rest129
        case hi129 => simp only [List.getElem?_toArray, List.getElem?_cons_succ, List.getElem?_cons_zero]; rfl
        case hf129 => kernel_rfl
        case hr129 => kernel_rfl
        case hw129 => rfl
        case hy129 => (intro w hSw; (try dsimp only at hSw); go_simp; all_goals (first | done | with_reducible rfl))
        case hQ129 => exact fun _ _ _ h => h
        simp only [Act.put, List.setIfInBounds_toArray, List.set_cons_zero, List.set_cons_succ]
        refine wpAnyH_ready (rs := [2]) (by kernel_rfl) (by simp) ?_
        refine AllReadyH.cons (o := ?oi130) ?hi130 (fun K hK => ?step130) AllReadyH.nil
        case hi130 => simp only [List.getElem?_toArray, List.getElem?_cons_succ, List.getElem?_cons_zero]; rfl
        rw [if_pos (by rfl)]
        go_simp
        go_at_call 12
        refine (C1.out _ HQd.out).mono ?_
        rintro e w31 ⟨v31, rfl, ho, hb⟩
        have HQ31 := hid (HQd.out.trans (hb.mono HQd.out.size))
        obtain ⟨A31, c31, rfl, _, _⟩ := (Sl.of_own ho).form
        have O31 := hid (Sl.of_own ho)
        clear ho
        clear hb
        refine hK.out _ _ (SR.out _ HQ31.out) (fun hS => ?_)
        refine wpAnyH_ready (rs := [5]) (by kernel_rfl) (by simp) ?_
        refine AllReadyH.cons (o := ?oi131) ?hi131 (fun K hK => ?step131) AllReadyH.nil
        case hi131 => simp only [List.getElem?_toArray, List.getElem?_cons_succ, List.getElem?_cons_zero]; rfl
        rw [if_pos (by rfl)]
        go_simp
        go_at_call 12
        refine (C2.out _ HQ31.out).mono ?_
        rintro e w32 ⟨v32, rfl, ho, hb⟩
        have HQ32 := hid (HQ31.out.trans (hb.mono HQ31.out.size))
        obtain ⟨A32, c32, rfl, _, _⟩ := (Sl.of_own ho).form
        have O32 := hid (Sl.of_own ho)
        have CQ3 := hid (equalSent_c _ _ X.length w32.heap.size X w32 ((O31.out.below hb (Nat.le_refl _)).more hb.size) O32.out (Nat.le_refl _))
        clear ho
        clear hb
        refine hK.out _ _ (SR.out _ HQ32.out) (fun hS => ?_)
        refine wpAnyH_ready (rs := [6]) (by kernel_rfl) (by simp) ?_
        refine AllReadyH.cons (o := ?oi132) ?hi132 (fun K hK => ?step132) AllReadyH.nil
        case hi132 => simp only [List.getElem?_toArray, List.getElem?_cons_succ, List.getElem?_cons_zero]; rfl
        rw [if_pos (by rfl)]
        go_simp
        go_at_call 13
        refine (CQ3.out).mono ?_
        rintro e w33 ⟨rfl, hb⟩
        have HQ33 := hid (HQ32.out.trans (hb.mono HQ32.out.size))
        clear hb
        refine hK.out _ _ (SR.out _ HQ33.out) (fun hS => ?_)
        refine wpAnyH_take (i := 7) (oi := ?oi133) (v := ?v133) ?hi133 (by kernel_rfl) ?hf133 ?hr133 ?hQ133 (Or.inl ⟨?hw133, ?hy133⟩) (by assumption) ?rest133
        case hi133 => simp only [List.getElem?_toArray, List.getElem?_cons_succ, List.getElem?_cons_zero]; rfl
        case hf133 => kernel_rfl
        case hr133 => kernel_rfl
        case hw133 => rfl
        case hy133 => (intro w hSw; (try dsimp only at hSw); go_simp; all_goals (first | done | with_reducible rfl))
        case hQ133 => exact fun _ _ _ h => h
        simp only [Act.put, List.setIfInBounds_toArray, List.set_cons_zero, List.set_cons_succ]
        refine wpAnyH_take (i := 8) (oi := ?oi134) (v := ?v134) ?hi134 (by kernel_rfl) ?hf134 ?hr134 ?hQ134 (Or.inl ⟨?hw134, ?hy134⟩) (by assumption) ?rest134
        case hi134 => simp only [List.getElem?_toArray, List.getElem?_cons_succ, List.getElem?_cons_zero]; rfl
        case hf134 => kernel_rfl
        case hr134 => kernel_rfl
        case hw134 => rfl
        case hy134 => (intro w hSw; (try dsimp only at hSw); go_simp; all_goals (first | done | with_reducible rfl))
        case hQ134 => exact fun _ _ _ h => h
        simp only [Act.put, List.setIfInBounds_toArray, List.set_cons_zero, List.set_cons_succ]
        refine wpAnyH_take (i := 9) (oi := ?oi135) (v := ?v135) ?hi135 (by kernel_rfl) ?hf135 ?hr135 ?hQ135 (Or.inl ⟨?hw135, ?hy135⟩) (by assumption) ?rest135
        case hi135 => simp only [List.getElem?_toArray, List.getElem?_cons_succ, List.getElem?_cons_zero]; rfl
        case hf135 => kernel_rfl
        case hr135 => kernel_rfl
        case hw135 => rfl
        case hy135 => (intro w hSw; (try dsimp only at hSw); go_simp; all_goals (first | done | with_reducible rfl))
        case hQ135 => exact fun _ _ _ h => h
        simp only [Act.put, List.setIfInBounds_toArray, List.set_cons_zero, List.set_cons_succ]
        refine wpAnyH_take (i := 10) (oi := ?oi136) (v := ?v136) ?hi136 (by kernel_rfl) ?hf136 ?hr136 ?hQ136 (Or.inl ⟨?hw136, ?hy136⟩) (by assumption) ?rest136
        case hi136 => simp only [List.getElem?_toArray, List.getElem?_cons_succ, List.getElem?_cons_zero]; rfl
        case hf136 => kernel_rfl
        case hr136 => kernel_rfl
        case hw136 => rfl
        case hy136 => (intro w hSw; (try dsimp only at hSw); go_simp; all_goals (first | done | with_reducible rfl))
        case hQ136 => exact fun _ _ _ h => h
        simp only [Act.put, List.setIfInBounds_toArray, List.set_cons_zero, List.set_cons_succ]
        refine wpAnyH_take (i := 11) (oi := ?oi137) (v := ?v137) ?hi137 (by kernel_rfl) ?hf137 ?hr137 ?hQ137 (Or.inl ⟨?hw137, ?hy137⟩) (by assumption) ?rest137
        case hi137 => simp only [List.getElem?_toArray, List.getElem?_cons_succ, List.getElem?_cons_zero]; rfl
        case hf137 => kernel_rfl
        case hr137 => kernel_rfl
        case hw137 => rfl
        case hy137 => (intro w hSw; (try dsimp only at hSw); go_simp; all_goals (first | done | with_reducible rfl))
        case hQ137 => exact fun _ _ _ h => h
        simp only [Act.put, List.setIfInBounds_toArray, List.set_cons_zero, List.set_cons_succ]
        refine wpAnyH_take (i := 12) (oi := ?oi138) (v := ?v138) ?hi138 (by kernel_rfl) ?hf138 ?hr138 ?hQ138 (Or.inl ⟨?hw138, ?hy138⟩) (by assumption) ?rest138
        case hi138 => simp only [List.getElem?_toArray, List.getElem?_cons_succ, List.getElem?_cons_zero]; rfl
        case hf138 => kernel_rfl
        case hr138 => kernel_rfl
        case hw138 => rfl
        case hy138 => (intro w hSw; (try dsimp only at hSw); go_simp; all_goals (first | done | with_reducible rfl))
        case hQ138 => exact fun _ _ _ h => h
        simp only [Act.put, List.setIfInBounds_toArray, List.set_cons_zero, List.set_cons_succ]
        refine wpAnyH_take (i := 13) (oi := ?oi139) (v := ?v139) ?hi139 (by kernel_rfl) ?hf139 ?hr139 ?hQ139 (Or.inl ⟨?hw139, ?hy139⟩) (by assumption) ?rest139
        case hi139 => simp only [List.getElem?_toArray, List.getElem?_cons_succ, List.getElem?_cons_zero]; rfl
        case hf139 => kernel_rfl
        case hr139 => kernel_rfl
        case hw139 => rfl
        case hy139 => (intro w hSw; (try dsimp only at hSw); go_simp; all_goals (first | done | with_reducible rfl))
        case hQ139 => exact fun _ _ _ h => h
        simp only [Act.put, List.setIfInBounds_toArray, List.set_cons_zero, List.set_cons_succ]
        refine wpAnyH_take (i := 15) (oi := ?oi140) (v := ?v140) ?hi140 (by kernel_rfl) ?hf140 ?hr140 ?hQ140 (Or.inl ⟨?hw140, ?hy140⟩) (by assumption) ?rest140
        case hi140 => simp only [List.getElem?_toArray, List.getElem?_cons_succ, List.getElem?_cons_zero]; rfl
        case hf140 => kernel_rfl
        case hr140 => kernel_rfl
        case hw140 => rfl
        case hy140 => (intro w hSw; (try dsimp only at hSw); go_simp; all_goals (first | done | with_reducible rfl))
        case hQ140 => exact fun _ _ _ h => h
        simp only [Act.put, List.setIfInBounds_toArray, List.set_cons_zero, List.set_cons_succ]
        refine wpAnyH_take (i := 16) (oi := ?oi141) (v := ?v141) ?hi141 (by kernel_rfl) ?hf141 ?hr141 ?hQ141 (Or.inl ⟨?hw141, ?hy141⟩) (by assumption) ?rest141
        case hi141 => simp only [List.getElem?_toArray, List.getElem?_cons_succ, List.getElem?_cons_zero]; rfl
        case hf141 => kernel_rfl
        case hr141 => kernel_rfl
        case hw141 => rfl
        case hy141 => (intro w hSw; (try dsimp only at hSw); go_simp; all_goals (first | done | with_reducible rfl))
        case hQ141 => exact fun _ _ _ h => h
        simp only [Act.put, List.setIfInBounds_toArray, List.set_cons_zero, List.set_cons_succ]
        refine wpAnyH_take (i := 17) (oi := ?oi142) (v := ?v142) ?hi142 (by kernel_rfl) ?hf142 ?hr142 ?hQ142 (Or.inl ⟨?hw142, ?hy142⟩) (by assumption) ?rest142
        case hi142 => simp only [List.getElem?_toArray, List.getElem?_cons_succ, List.getElem?_cons_zero]; rfl
        case hf142 => kernel_rfl
        case hr142 => kernel_rfl
        case hw142 => rfl
        case hy142 => (intro w hSw; (try dsimp only at hSw); go_simp; all_goals (first | done | with_reducible rfl))
        case hQ142 => exact fun _ _ _ h => h
        simp only [Act.put, List.setIfInBounds_toArray, List.set_cons_zero, List.set_cons_succ]
        refine wpAnyH_take (i := 18) (oi := ?oi143) (v := ?v143) ?hi143 (by kernel_rfl) ?hf143 ?hr143 ?hQ143 (Or.inl ⟨?hw143, ?hy143⟩) (by assumption) ?rest143
        case hi143 => simp only [List.getElem?_toArray, List.getElem?_cons_succ, List.getElem?_cons_zero]; rfl
        case hf143 => kernel_rfl
        case hr143 => kernel_rfl
        case hw143 => rfl
        case hy143 => (intro w hSw; (try dsimp only at hSw); go_simp; all_goals (first | done | with_reducible rfl))
        case hQ143 => exact fun _ _ _ h => h
        simp only [Act.put, List.setIfInBounds_toArray, List.set_cons_zero, List.set_cons_succ]
        refine wpAnyH_take (i := 19) (oi := ?oi144) (v := ?v144) ?hi144 (by kernel_rfl) ?hf144 ?hr144 ?hQ144 (Or.inl ⟨?hw144, ?hy144⟩) (by assumption) ?rest144
        case hi144 => simp only [List.getElem?_toArray, List.getElem?_cons_succ, List.getElem?_cons_zero]; rfl
        case hf144 => kernel_rfl
        case hr144 => kernel_rfl
        case hw144 => rfl
        case hy144 => (intro w hSw; (try dsimp only at hSw); go_simp; all_goals (first | done | with_reducible rfl))
        case hQ144 => exact fun _ _ _ h => h
        simp only [Act.put, List.setIfInBounds_toArray, List.set_cons_zero, List.set_cons_succ]
        refine wpAnyH_ready (rs := [14]) (by kernel_rfl) (by simp) ?_
        refine AllReadyH.cons (o := ?oi145) ?hi145 (fun K hK => ?step145) AllReadyH.nil
        case hi145 => simp only [List.getElem?_toArray, List.getElem?_cons_succ, List.getElem?_cons_zero]; rfl
        rw [if_pos (by rfl)]
        go_simp
        go_at_call 37
        refine (E1.out _ HQ33.out).mono ?_
        rintro e w34 ⟨rfl, hb⟩
        have HQ34 := hid (HQ33.out.trans (hb.mono HQ33.out.size))
        clear hb
        refine hK.out _ _ (SR.out _ HQ34.out) (fun hS => ?_)
        refine wpAnyH_ready (rs := [20]) (by kernel_rfl) (by simp) ?_
        refine AllReadyH.cons (o := ?oi146) ?hi146 (fun K hK => ?step146) AllReadyH.nil
        case hi146 => simp only [List.getElem?_toArray, List.getElem?_cons_succ, List.getElem?_cons_zero]; rfl
        rw [if_pos (by rfl)]
        go_simp
        go_at_call 37
        refine (E2.out _ HQ34.out).mono ?_
        rintro e w35 ⟨rfl, hb⟩
        have HQ35 := hid (HQ34.out.trans (hb.mono HQ34.out.size))
        clear hb
        refine hK.out _ _ (SR.out _ HQ35.out) (fun hS => ?_)
        refine wpAnyH_take (i := 21) (oi := ?oi147) (v := ?v147) ?hi147 (by kernel_rfl) ?hf147 ?hr147 ?hQ147 (Or.inl ⟨?hw147, ?hy147⟩) (by assumption) ?rest147
        case hi147 => simp only [List.getElem?_toArray, List.getElem?_cons_succ, List.getElem?_cons_zero]; rfl
        case hf147 => kernel_rfl
        case hr147 => kernel_rfl
        case hw147 => rfl
        case hy147 => (intro w hSw; (try dsimp only at hSw); go_simp; all_goals (first | done | with_reducible rfl))
        case hQ147 => exact fun _ _ _ h => h
        simp only [Act.put, List.setIfInBounds_toArray, List.set_cons_zero, List.set_cons_succ]
        refine wpAnyH_take (i := 22) (oi := ?oi148) (v := ?v148) ?hi148 (by kernel_rfl) ?hf148 ?hr148 ?hQ148 (Or.inl ⟨?hw148, ?hy148⟩) (by assumption) ?rest148
        case hi148 => simp only [List.getElem?_toArray, List.getElem?_cons_succ, List.getElem?_cons_zero]; rfl
        case hf148 => kernel_rfl
        case hr148 => kernel_rfl
        case hw148 => rfl
        case hy148 => (intro w hSw; (try dsimp only at hSw); go_simp; all_goals (first | done | with_reducible rfl))
        case hQ148 => exact fun _ _ _ h => h
        simp only [Act.put, List.setIfInBounds_toArray, List.set_cons_zero, List.set_cons_succ]
        refine wpAnyH_done (by kernel_rfl) ?_ _
        clear hS CQ3
        go_wp2_with fail
        go_roundw
        case rel => exact ⟨k + 1, by go_num, by omega, HBq.out.trans (HQ35.out.mono HBq.out.size)⟩
        case measure => simp [intOf]; omega
      · have HOf := hid (HOr.out.drew)
        go_wp2_with fail
        refine wp_region_held_drew (S := (fun w' : World => (w'.cell? ⟨bo, 0, none⟩ = some (.slice A3 n3 k3) ∧ w'.cell? ⟨bo, 1, none⟩ = some (.slice A4 n4 k4) ∧ w'.cell? ⟨bo, 2, none⟩ = some (.int .i64 q)) ∧ (w'.cell? ⟨ba, 0, none⟩ = some (.slice A1 n1 k1) ∧ w'.cell? ⟨ba, 1, none⟩ = some (.slice A2 n2 k2) ∧ w'.cell? ⟨ba, 2, none⟩ = some (.int .i64 q)))) (by kernel_rfl) (SG.out _ HOf.out) (fun hS => ?_)
        refine wpAnyH_take (i := 0) (oi := ?oi149) (v := ?v149) ?hi149 (by kernel_rfl) ?hf149 ?hr149 ?hQ149 (Or.inl ⟨?hw149, ?hy149⟩) (by assumption) ?rest149
        case hi149 => simp only [List.getElem?_toArray, List.getElem?_cons_succ, List.getElem?_cons_zero]; rfl
        case hf149 => kernel_rfl
        case hr149 => kernel_rfl
        case hw149 => rfl
        case hy149 => (intro w hSw; (try dsimp only at hSw); go_simp; all_goals (first | done | with_reducible rfl))
        case hQ149 => exact fun _ _ _ h => h
        simp only [Act.put, List.setIfInBounds_toArray, List.set_cons_zero, List.set_cons_succ]
        refine wpAnyH_take (i := 2) (oi := ?oi150) (v := ?v150) ?hi150 (by kernel_rfl) ?hf150 ?hr150 ?hQ150 (Or.inl ⟨?hw150, ?hy150⟩) (by assumption) ?rest150
        case hi150 => simp only [List.getElem?_toArray, List.getElem?_cons_succ, List.getElem?_cons_zero]; rfl
        case hf150 => kernel_rfl
        case hr150 => kernel_rfl
        case hw150 => rfl
        case hy150 => (intro w hSw; (try dsimp only at hSw); go_simp; all_goals (first | done | with_reducible rfl))
        case hQ150 => exact fun _ _ _ h => h
        simp only [Act.put, List.setIfInBounds_toArray, List.set_cons_zero, List.set_cons_succ]
        refine wpAnyH_ready (rs := [1]) (by kernel_rfl) (by simp) ?_
        refine AllReadyH.cons (o := ?oi151) ?hi151 (fun K hK => ?step151) AllReadyH.nil
        case hi151 => simp only [List.getElem?_toArray, List.getElem?_cons_succ, List.getElem?_cons_zero]; rfl
        rw [if_pos (by rfl)]
        go_simp
        go_at_call 34
        refine (CO.out _ HOf.out).mono ?_
        rintro e w41 ⟨v41, rs41, rfl, hs41, hr41, hb⟩
        have HO41 := hid (HOf.out.trans (hb.mono HOf.out.size))
        obtain ⟨P3, pn3, pk3, P4, pn4, pk4, rfl, -, -⟩ := hs41.form_ hr41
        have CQ2 := hid (equalTree_c (hs41.at_ hr41 DX2.out) (TN.out _ HO41.out).1 (Nat.le_refl _) (TN.out _ HO41.out).2)
        clear hs41 hr41
        clear hb
        refine hK.out _ _ (SG.out _ HO41.out) (fun hS => ?_)
        refine wpAnyH_ready (rs := [3]) (by kernel_rfl) (by simp) ?_
        refine AllReadyH.cons (o := ?oi152) ?hi152 (fun K hK => ?step152) AllReadyH.nil
        case hi152 => simp only [List.getElem?_toArray, List.getElem?_cons_succ, List.getElem?_cons_zero]; rfl
        rw [if_pos (by rfl)]
        go_simp
        go_at_call 30
        refine (CQ2.out).mono ?_
        rintro e w42 ⟨rfl, hb⟩
        have HO42 := hid (HO41.out.trans (hb.mono HO41.out.size))
        clear hb
        refine hK.out _ _ (SG.out _ HO42.out) (fun hS => ?_)
        refine wpAnyH_take (i := 4) (oi := ?oi153) (v := ?v153) ?hi153 (by kernel_rfl) ?hf153 ?hr153 ?hQ153 (Or.inl ⟨?hw153, ?hy153⟩) (by assumption) ?rest153
        case hi153 => simp only [List.getElem?_toArray, List.getElem?_cons_succ, List.getElem?_cons_zero]; rfl
        case hf153 => kernel_rfl
        case hr153 => kernel_rfl
        case hw153 => rfl
        case hy153 => (intro w hSw; (try dsimp only at hSw); go_simp; all_goals (first | done | with_reducible rfl))
        case hQ153 => exact fun _ _ _ h => h
        simp only [Act.put, List.setIfInBounds_toArray, List.set_cons_zero, List.set_cons_succ]
        refine wpAnyH_take (i := 5) (oi := ?oi154) (v := ?v154) ?hi154 (by kernel_rfl) ?hf154 ?hr154 ?hQ154 (Or.inl ⟨?hw154, ?hy154⟩) (by assumption) ?rest154
        case hi154 => simp only [List.getElem?_toArray, List.getElem?_cons_succ, List.getElem?_cons_zero]; rfl
        case hf154 => kernel_rfl
        case hr154 => kernel_rfl
        case hw154 => rfl
        case hy154 => (intro w hSw; (try dsimp only at hSw); go_simp; all_goals (first | done | with_reducible rfl))
        case hQ154 => exact fun _ _ _ h => h
        simp only [Act.put, List.setIfInBounds_toArray, List.set_cons_zero, List.set_cons_succ]
        refine wpAnyH_ready (rs := [6]) (by kernel_rfl) (by simp) ?_
        refine AllReadyH.cons (o := ?oi155) ?hi155 (fun K hK => ?step155) AllReadyH.nil
        case hi155 => simp only [List.getElem?_toArray, List.getElem?_cons_succ, List.getElem?_cons_zero]; rfl
        rw [if_pos (by rfl)]
        go_simp
        go_at_call 15
        refine (CW.out _ HO42.out).mono ?_
        rintro e w43 ⟨rfl, hb⟩
        have HO43 := hid (HO42.out.trans (hb.mono HO42.out.size))
        clear hb
        refine hK.out _ _ (SG.out _ HO43.out) (fun hS => ?_)
        refine wpAnyH_take (i := 7) (oi := ?oi156) (v := ?v156) ?hi156 (by kernel_rfl) ?hf156 ?hr156 ?hQ156 (Or.inl ⟨?hw156, ?hy156⟩) (by assumption) ?rest156
        case hi156 => simp only [List.getElem?_toArray, List.getElem?_cons_succ, List.getElem?_cons_zero]; rfl
        case hf156 => kernel_rfl
        case hr156 => kernel_rfl
        case hw156 => rfl
        case hy156 => (intro w hSw; (try dsimp only at hSw); go_simp; all_goals (first | done | with_reducible rfl))
        case hQ156 => exact fun _ _ _ h => h
        simp only [Act.put, List.setIfInBounds_toArray, List.set_cons_zero, List.set_cons_succ]
        refine wpAnyH_take (i := 8) (oi := ?oi157) (v := ?v157) ?hi157 (by kernel_rfl) ?hf157 ?hr157 ?hQ157 (Or.inl ⟨?hw157, ?hy157⟩) (by assumption) ?rest157
        case hi157 => simp only [List.getElem?_toArray, List.getElem?_cons_succ, List.getElem?_cons_zero]; rfl
        case hf157 => kernel_rfl
        case hr157 => kernel_rfl
        case hw157 => rfl
        case hy157 => (intro w hSw; (try dsimp only at hSw); go_simp; all_goals (first | done | with_reducible rfl))
        case hQ157 => exact fun _ _ _ h => h
        simp only [Act.put, List.setIfInBounds_toArray, List.set_cons_zero, List.set_cons_succ]
        refine wpAnyH_done (by kernel_rfl) ?_ _
        clear hS
        go_wp2_with fail
        go_ret
        exact ⟨rfl, HB.out.trans ((HW4.out.trans (HO43.out.mono HW4.out.size)).mono HB.out.size)⟩
end Go.Proofs.YtioegkcekbkblaaGreat
