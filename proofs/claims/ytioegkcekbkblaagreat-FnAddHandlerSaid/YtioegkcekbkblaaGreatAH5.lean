/-
  A HANDLER ADDED: the model's AddHandler. By gen_ah5.py.
-/
import Derived.Test.YtioegkcekbkblaaGreatAH4
import Derived.Test.YtioegkcekbkblaaGreatCM
namespace Go.Proofs.YtioegkcekbkblaaGreat
open Go.RowKit Nm
set_option linter.unusedSimpArgs false
set_option linter.unusedVariables false

set_option maxHeartbeats 8000000 in
set_option maxRecDepth 100000 in
theorem specAddHandler_c {w : World} {B Bf fn fc : Nat} {v : Value} {fA : Option Addr} {L : List Lgr} {H : List Hnd} {q : Int} {fs : List Flt} (s : ByteArray) (lv : Int) (h : TreeIn w B v L H q) (hB : B ≤ w.heap.size) (hf : Sl w Bf 3 fn (.slice fA fn fc) (fsCells fs)) (hBf : Bf ≤ w.heap.size) (hz : hndFit ⟨s.data.toList, lv, fs⟩) (hn : fn ≤ 1048576) :
    Calls Tryz.prog 29 #[v, .agg #[.string s, .int .i64 lv, .slice fA fn fc]] w (TreePostO w (addHdX L H q ⟨s.data.toList, lv, fs⟩)) := by
  obtain ⟨A1, n1, k1, A2, n2, k2, rfl⟩ := h.form
  have HW := hid (show Below w.heap.size w (((w.alloc (.cells #[.slice A1 n1 k1, .slice A2 n2 k2, .int .i64 q] 26)).alloc (.cells #[.string s, .int .i64 lv, .slice fA fn fc] 47)).alloc (.cells #[.slice none 0 0, .slice none 0 0, .int .i64 0] 26)) from (((Below.refl _ _).alloc (Nat.le_refl _) _).alloc (by simp) _).alloc (by simp; omega) _)
  have KA := hid (((Blk.new w #[.slice A1 n1 k1, .slice A2 n2 k2, .int .i64 q] 26).alloc (.cells #[.string s, .int .i64 lv, .slice fA fn fc] 47)).alloc (.cells #[.slice none 0 0, .slice none 0 0, .int .i64 0] 26))
  have KB := hid ((Blk.new (w.alloc (.cells #[.slice A1 n1 k1, .slice A2 n2 k2, .int .i64 q] 26)) #[.string s, .int .i64 lv, .slice fA fn fc] 47).alloc (.cells #[.slice none 0 0, .slice none 0 0, .int .i64 0] 26))
  have KR := hid (Blk.new ((w.alloc (.cells #[.slice A1 n1 k1, .slice A2 n2 k2, .int .i64 q] 26)).alloc (.cells #[.string s, .int .i64 lv, .slice fA fn fc] 47)) #[.slice none 0 0, .slice none 0 0, .int .i64 0] 26)
  simp only [World.size_alloc] at KB KR
  have hsz3 : (((w.alloc (.cells #[.slice A1 n1 k1, .slice A2 n2 k2, .int .i64 q] 26)).alloc (.cells #[.string s, .int .i64 lv, .slice fA fn fc] 47)).alloc (.cells #[.slice none 0 0, .slice none 0 0, .int .i64 0] 26)).heap.size = w.heap.size + 3 := by simp
  have CV := specTreeX_c (h.below HW.out hB) (Nat.le_trans hB HW.out.size)
  have CC := fun (hz : treeOk L H q = true) (W : World) (hW : Below w.heap.size w W) => specCopy_c (h.below hW hB) hz (Nat.le_trans hB hW.size)
  have CHd := hid (fun (W : World) (hW : Below w.heap.size w W) => specCopyHandler_c s lv fA fn fc Bf fs W (hf.below hW hBf) (Nat.le_trans hBf hW.size) hn)
  have HZ := hid hz
  have d0 := (KA.out.2 0 _ rfl).1
  have d1 := (KA.out.2 1 _ rfl).1
  have d2 := (KA.out.2 2 _ rfl).1
  clear h hf hz
  cases hzt : treeOk L H q with
  | false =>
    have HX := hid (show addHdX L H q ⟨s.data.toList, lv, fs⟩ = none by unfold addHdX changedO; rw [hzt]; rfl)
    rw [hzt] at CV
    generalize addHdX L H q ⟨s.data.toList, lv, fs⟩ = X at *
    replace CV := hid CV
    clear hzt CC
    go_enter Tryz.func29, Tryz.ntmps29
    go_wp2_with fail
    refine (CV.out).mono ?_
    rintro e w4 ⟨rfl, hb4⟩
    have HW4 := hid (HW.out.trans (hb4.mono HW.out.size))
    have KR4 := hid (KR.out.to hb4)
    clear hb4 d0 d1 d2 hsz3
    obtain ⟨q0c, q0f⟩ := KR4.out.2 0 _ rfl
    obtain ⟨q1c, q1f⟩ := KR4.out.2 1 _ rfl
    obtain ⟨q2c, q2f⟩ := KR4.out.2 2 _ rfl
    go_wp2_with fail
    have RB := ((KR4.out.set 0 (.slice none 0 0)).set 1 (.slice none 0 0)).set 2 (.int .i64 0)
    have f0 := (RB.2 0 _ rfl).1
    have f1 := (RB.2 1 _ rfl).1
    have f2 := (RB.2 2 _ rfl).1
    refine bodyPost_ret (v := .tuple #[.agg #[.slice none 0 0, .slice none 0 0, .int .i64 0], .bool false]) (by simp [results, Tryz.results29, go_sem, f0, f1, f2]) rfl ?_
    refine postO_none HX.out rfl ?_
    iterate 3 refine Below.setCell ?_ (by simp; try omega) _
    exact HW4.out
  | true =>
    have HX := hid (show addHdX L H q ⟨s.data.toList, lv, fs⟩ = ifOk L (H ++ [⟨s.data.toList, lv, fs⟩]) q by unfold addHdX changedO; rw [hzt]; rfl)
    rw [hzt] at CV
    generalize addHdX L H q ⟨s.data.toList, lv, fs⟩ = X at *
    replace CV := hid CV
    replace CC := hid (CC hzt)
    have hh6 := tree_hlen hzt
    have hd := fit_ok hzt
    have HD := hid (show dataFit L (H ++ [⟨s.data.toList, lv, fs⟩]) from ⟨hd.1, by rw [List.length_append]; simp; unfold maxTxt; omega, fun a ha => by
      rcases List.mem_append.1 ha with ha | ha
      · exact hd.2.2 a ha
      · rw [List.mem_singleton] at ha; rw [ha]; exact HZ.out⟩)
    clear hzt hd
    go_enter Tryz.func29, Tryz.ntmps29
    go_wp2_with fail
    refine (CV.out).mono ?_
    rintro e w1 ⟨rfl, hb4⟩
    have HW1 := hid (HW.out.trans (hb4.mono HW.out.size))
    have KA1 := hid (KA.out.to hb4)
    have KB1 := hid (KB.out.to hb4)
    have KR1 := hid (KR.out.to hb4)
    have hw1 : w.heap.size + 3 ≤ w1.heap.size := by have := hb4.size; rw [hsz3] at this; exact this
    clear hb4 d0 d1 d2 hsz3
    have d0 := (KA1.out.2 0 _ rfl).1
    have d1 := (KA1.out.2 1 _ rfl).1
    have d2 := (KA1.out.2 2 _ rfl).1
    go_wp2_with fail
    refine (CC.out _ HW1.out).mono ?_
    rintro e w2 ⟨v', rs, rfl, hs, hr, hb2⟩
    obtain ⟨u1, u2, ls, hs', rfl, hL, hH, rfl⟩ := hs
    have hlh : hs'.length ≤ 6 := by have h9 : hs'.length = H.length := by rw [← hH]; simp [hsOf]
                                    omega
    obtain ⟨hl, hh⟩ := hr.lsIn
    obtain ⟨A, c, rfl, _, _⟩ := hl.1.form
    obtain ⟨A4, c4, rfl, _, _⟩ := hh.1.form
    clear hl hh
    have hba : Below w2.heap.size w2 (w2.alloc (.cells #[.slice A ls.length c, .slice A4 hs'.length c4, .int .i64 q] 26)) := (Below.refl _ _).alloc (Nat.le_refl _) _
    have HB3 := hid ((show Below w1.heap.size w1 w2 from hb2).trans (hba.mono hb2.size))
    have KO := hid (Blk.new w2 #[.slice A ls.length c, .slice A4 hs'.length c4, .int .i64 q] 26)
    have HR3 := hid (hr.below hba)
    have HN3 := hid (fun r h z hz => (show w1.heap.size ≤ z ∧ z < w2.heap.size from (hr.1 r h).lt z hz))
    have KB3 := hid ((KB1.out.to hb2).to hba)
    have HLH := hid (And.intro hL hH)
    have hbo1 : w1.heap.size ≤ w2.heap.size := hb2.size
    clear hr hb2 hL hH d0 d1 d2 hba
    have x0 := (KB3.out.2 0 _ rfl).1
    have x1 := (KB3.out.2 1 _ rfl).1
    have x2 := (KB3.out.2 2 _ rfl).1
    have o1 := (KO.out.2 1 _ rfl).1
    have hbos : w2.heap.size < (w2.alloc (.cells #[.slice A ls.length c, .slice A4 hs'.length c4, .int .i64 q] 26)).heap.size := by simp
    go_wp2_with fail
    generalize hbo : w2.heap.size = bo at *
    generalize w2.alloc (.cells #[.slice A ls.length c, .slice A4 hs'.length c4, .int .i64 q] 26) = w3 at *
    clear hbo
    have HWq := hid (HW1.out.trans (HB3.out.mono HW1.out.size)).drew
    have CK := hid (CHd.out w3.drew HWq.out)
    refine wp_region_let 7 (fun w' : World => w'.cell? ⟨w.heap.size + 1, 0, none⟩ = some (.string s) ∧ w'.cell? ⟨w.heap.size + 1, 1, none⟩ = some (.int .i64 lv) ∧ w'.cell? ⟨w.heap.size + 1, 2, none⟩ = some (.slice fA fn fc)) (fun w' : World => w'.cell? ⟨bo, 1, none⟩ = some (.slice A4 hs'.length c4)) (by kernel_rfl) ⟨x0, x1, x2⟩ o1 (fun hS => ?_)
    refine wpAnyL_take (i := 0) (oi := ?oi101) (v := ?v101) ?hi101 (by kernel_rfl) ?hf101 ?hr101 (by decide) ?hQ101 (Or.inl ⟨?hw101, ?hy101⟩) (⟨hS.1, fun h => hS.2 (by first | rfl | exact h)⟩) ?rest101
    case hi101 => simp only [List.getElem?_toArray, List.getElem?_cons_succ, List.getElem?_cons_zero]; rfl
    case hf101 => kernel_rfl
    case hr101 => kernel_rfl
    case hw101 => rfl
    case hy101 => (intro w hSw; (try dsimp only at hSw); go_simp; all_goals (first | done | with_reducible rfl))
    case hQ101 => exact fun _ _ _ h => h
    simp only [Act.put, List.setIfInBounds_toArray, List.set_cons_zero, List.set_cons_succ]
    refine wpAnyL_take (i := 2) (oi := ?oi102) (v := ?v102) ?hi102 (by kernel_rfl) ?hf102 ?hr102 (by decide) ?hQ102 (Or.inl ⟨?hw102, ?hy102⟩) (⟨hS.1, fun h => hS.2 (by first | rfl | exact h)⟩) ?rest102
    case hi102 => simp only [List.getElem?_toArray, List.getElem?_cons_succ, List.getElem?_cons_zero]; rfl
    case hf102 => kernel_rfl
    case hr102 => kernel_rfl
    case hw102 => rfl
    case hy102 => (intro w hSw; (try dsimp only at hSw); go_simp; all_goals (first | done | with_reducible rfl))
    case hQ102 => exact fun _ _ _ h => h
    simp only [Act.put, List.setIfInBounds_toArray, List.set_cons_zero, List.set_cons_succ]
    refine wpAnyL_take1 (i := 1) (oi := ?oi103) (om := ?om103) (v := ?v103) ?hi103 (by kernel_rfl) ?hf103 ?hr103 (by decide) ?hm103 ?hd103 (by rfl) ?hQ103 (Or.inl ⟨?hw103, ?hy103⟩) (⟨hS.1, fun h => hS.2 (by first | rfl | exact h)⟩) ?rest103
    case hi103 => simp only [List.getElem?_toArray, List.getElem?_cons_succ, List.getElem?_cons_zero]; rfl
    case hm103 => simp only [List.getElem?_toArray, List.getElem?_cons_succ, List.getElem?_cons_zero]; rfl
    case hd103 => kernel_rfl
    case hf103 => kernel_rfl
    case hr103 => kernel_rfl
    case hw103 => rfl
    case hy103 => (intro w hSw; (try dsimp only at hSw); go_simp; all_goals (first | done | with_reducible rfl))
    case hQ103 => exact fun _ _ _ h => h
    simp only [Act.put, List.setIfInBounds_toArray, List.set_cons_zero, List.set_cons_succ]
    refine wpAnyL_ready (rs := [3]) (by kernel_rfl) (by simp) ?_
    refine AllReadyL.cons (o := ?oi104) ?hi104 (fun K hK => ?step104) AllReadyL.nil
    case hi104 => simp only [List.getElem?_toArray, List.getElem?_cons_succ, List.getElem?_cons_zero]; rfl
    rw [if_pos (by rfl)]
    go_simp
    go_at_call 66
    refine (CK.out).mono ?_
    rintro e w5 ⟨v8, rfl, ho8, hb5⟩
    obtain ⟨A8, c8, rfl, _, _⟩ := (Sl.of_own ho8).form
    have hb35 : Below w3.heap.size w3 w5 := ((Below.refl w3.heap.size w3).drew).trans hb5
    have KO5 := hid (KO.out.to hb35)
    have KB5 := hid (KB3.out.to hb35)
    have hlo5 : w1.heap.size ≤ w3.heap.size := by omega
    have HR5 := hid (HR3.out.more hb35 (show Rows w5 w3.heap.size [⟨99, 3, fn, .slice A8 fn c8, fsCells fs⟩] from Rows.one ho8) hlo5)
    have HB5 := hid (HB3.out.trans (hb35.mono hlo5))
    have h35 : w3.heap.size ≤ w5.heap.size := hb35.size
    have HF8 := hid (fun z (hz : (Value.slice A8 fn c8).ownBlock = some z) => (show w3.heap.size ≤ z from (ho8.lt z hz).1))
    clear ho8 hb5 hb35
    refine hK.out _ _ ⟨⟨(KB5.out.2 0 _ rfl).1, (KB5.out.2 1 _ rfl).1, (KB5.out.2 2 _ rfl).1⟩, fun _ => (KO5.out.2 1 _ rfl).1⟩ (fun hS => ?_)
    obtain ⟨A5, c5, w6, hrun, ho4, hg4, hloc⟩ := run_addHd (fA := A8) (fn := fn) (fc := c8) w5 s lv (HR5.out.1 ⟨47, 3, hs'.length, .slice A4 hs'.length c4, hs'.flatMap hcells⟩ (by rw [treeRows_eq]; simp [two])) (by omega) (Nat.le_trans hlo5 h35)
    obtain ⟨hR4, hoff⟩ := tree_addH s lv rfl HR5.out ho4 hg4 hloc
    have hlo4 : ∀ z, (Value.slice A4 hs'.length c4).ownBlock = some z → w1.heap.size ≤ z ∧ z < bo := fun z hz => HN3.out ⟨47, 3, hs'.length, .slice A4 hs'.length c4, hs'.flatMap hcells⟩ (by rw [treeRows_eq]; simp [two]) z hz
    have hP := hoff (fun z => z ≠ bo) (fun r h z hz => by
      rcases List.mem_append.1 h with h | h
      · have := (HN3.out r h z hz).2; omega
      · rw [List.mem_singleton] at h
        subst h
        have := HF8.out z hz
        omega) (by omega)
    have hne : some bo ≠ (Value.slice A4 hs'.length c4).ownBlock := fun e9 => by have := (hlo4 bo e9.symm).2; omega
    have hneh : some (w.heap.size + 1) ≠ (Value.slice A4 hs'.length c4).ownBlock := fun e9 => by have := (hlo4 _ e9.symm).1; omega
    have HK6 := hid (KO5.out.kept hg4 hne)
    have HH6 := hid (KB5.out.kept hg4 hneh)
    have HR6 := hid (hR4.off (j := 1) (u := .slice A5 (hs'.length + 1) c5) (fun r h e9 => hP r h _ e9 rfl))
    have HB6 := hid (HB5.out.grown hg4 (Nat.le_trans hlo5 h35) (fun z hz => (hlo4 z hz).1))
    have HRun := hid hrun
    have hbo5 : bo < w5.heap.size := KO5.out.1
    have hbh5 : w.heap.size + 1 < w5.heap.size := KB5.out.1
    have hbb : bo ≠ w.heap.size + 1 := by omega
    clear hrun ho4 hg4 hloc hR4 hoff hlo4 hP hne hneh
    refine wpAnyL_ready (rs := [4]) (by kernel_rfl) (by simp) ?_
    refine AllReadyL.cons (o := ?oi105) ?hi105 (fun K hK => ?step105) AllReadyL.nil
    case hi105 => simp only [List.getElem?_toArray, List.getElem?_cons_succ, List.getElem?_cons_zero]; rfl
    rw [if_pos (by rfl)]
    go_simp
    refine hK.out _ _ ⟨⟨(World.cell?_alloc_past _ _ _ hbh5).trans (KB5.out.2 0 _ rfl).1, (World.cell?_alloc_past _ _ _ hbh5).trans (KB5.out.2 1 _ rfl).1, (World.cell?_alloc_past _ _ _ hbh5).trans (KB5.out.2 2 _ rfl).1⟩, fun _ => (World.cell?_alloc_past _ _ _ hbo5).trans (KO5.out.2 1 _ rfl).1⟩ (fun hS => ?_)
    refine wpAnyL_ready (rs := [5]) (by kernel_rfl) (by simp) ?_
    refine AllReadyL.cons (o := ?oi106) ?hi106 (fun K hK => ?step106) AllReadyL.nil
    case hi106 => simp only [List.getElem?_toArray, List.getElem?_cons_succ, List.getElem?_cons_zero]; rfl
    rw [if_pos (by rfl)]
    refine wp_app rfl (by rfl) (by rfl) HRun.out ?_
    refine hK.out _ _ ⟨⟨(HH6.out.2 0 _ rfl).1, (HH6.out.2 1 _ rfl).1, (HH6.out.2 2 _ rfl).1⟩, fun _ => (HK6.out.2 1 _ rfl).1⟩ (fun hS => ?_)
    simp only [Act.put, List.setIfInBounds_toArray, List.set_cons_zero, List.set_cons_succ]
    refine wpAnyL_take (i := 6) (oi := ?oi107) (v := ?v107) ?hi107 (by kernel_rfl) ?hf107 ?hr107 (by decide) ?hQ107 (Or.inl ⟨?hw107, ?hy107⟩) (⟨hS.1, fun h => hS.2 (by first | rfl | exact h)⟩) ?rest107
    case hi107 => simp only [List.getElem?_toArray, List.getElem?_cons_succ, List.getElem?_cons_zero]; rfl
    case hf107 => kernel_rfl
    case hr107 => kernel_rfl
    case hw107 => rfl
    case hy107 => (intro w hSw; (try dsimp only at hSw); go_simp; all_goals (first | done | with_reducible rfl))
    case hQ107 => exact fun _ _ _ h => h
    simp only [Act.put, List.setIfInBounds_toArray, List.set_cons_zero, List.set_cons_succ]
    have o9 := (HK6.out.2 1 _ rfl).1
    have o9f := (HK6.out.2 1 _ rfl).2
    refine wpAnyL_ready (rs := [7]) (by kernel_rfl) (by simp) ?_
    refine AllReadyL.cons (o := ?oi108) ?hi108 (fun K hK => ?step108) AllReadyL.nil
    case hi108 => simp only [List.getElem?_toArray, List.getElem?_cons_succ, List.getElem?_cons_zero]; rfl
    rw [if_pos (by rfl)]
    go_simp
    refine hK.out _ _ ⟨⟨(World.cell?_setCell_far _ _ _ _ hbb).trans (HH6.out.2 0 _ rfl).1, (World.cell?_setCell_far _ _ _ _ hbb).trans (HH6.out.2 1 _ rfl).1, (World.cell?_setCell_far _ _ _ _ hbb).trans (HH6.out.2 2 _ rfl).1⟩, fun h => absurd h (by decide)⟩ (fun hS => ?_)
    refine wpAnyL_done (by kernel_rfl) ?_ _
    clear hS o9 o9f o1 x0 x1 x2
    have HK7 := hid (HK6.out.set 1 (.slice A5 (hs'.length + 1) c5))
    have HB7 := hid (HB6.out.setCell (p := ⟨bo, 1, none⟩) hbo1 (.slice A5 (hs'.length + 1) c5))
    generalize w6.setCell ⟨bo, 1, none⟩ (.slice A5 (hs'.length + 1) c5) = w7 at *
    have HS7 := hid (show TreeS (treeRows ls.length (.slice A ls.length c) ls (hs'.length + 1) (.slice A5 (hs'.length + 1) c5) (hs' ++ [mkHd s lv A8 fn c8 fs])) (.agg #[.slice A ls.length c, .slice A5 (hs'.length + 1) c5, .int .i64 q]) L (H ++ [⟨s.data.toList, lv, fs⟩]) q from ⟨_, _, ls, hs' ++ [mkHd s lv A8 fn c8 fs], rfl, HLH.out.1, by rw [← HLH.out.2]; simp [hsOf, mkHd], by rw [List.length_append]; rfl⟩)
    have CKd := hid (specChecked_c (HS7.out.at_ HR6.out HD.out) (Nat.le_refl _))
    have b0 := (HK7.out.2 0 _ rfl).1
    have b1 := (HK7.out.2 1 _ rfl).1
    have b2 := (HK7.out.2 2 _ rfl).1
    have KR7 := hid (KR1.out.to HB7.out)
    have HW7 := hid (HW1.out.trans (HB7.out.mono HW1.out.size))
    generalize hN : hs'.length + 1 = n5 at *
    clear hN
    cases hy : treeOk L (H ++ [⟨s.data.toList, lv, fs⟩]) q with
    | false =>
      rw [hy] at CKd
      have HN := hid (show X = none by rw [HX.out]; unfold ifOk; rw [hy]; rfl)
      clear hy
      go_wp2_with fail
      refine (CKd.out).mono ?_
      rintro e w9 ⟨rfl, hb9⟩
      have KR9 := hid (KR7.out.to hb9)
      have HB9 := hid (HW7.out.trans (hb9.mono HW7.out.size))
      clear hb9 b0 b1 b2
      obtain ⟨q0c, q0f⟩ := KR9.out.2 0 _ rfl
      obtain ⟨q1c, q1f⟩ := KR9.out.2 1 _ rfl
      obtain ⟨q2c, q2f⟩ := KR9.out.2 2 _ rfl
      go_wp2_with fail
      have RB := ((KR9.out.set 0 (.slice none 0 0)).set 1 (.slice none 0 0)).set 2 (.int .i64 0)
      have f0 := (RB.2 0 _ rfl).1
      have f1 := (RB.2 1 _ rfl).1
      have f2 := (RB.2 2 _ rfl).1
      refine bodyPost_ret (v := .tuple #[.agg #[.slice none 0 0, .slice none 0 0, .int .i64 0], .bool false]) (by simp [results, Tryz.results29, go_sem, f0, f1, f2]) rfl ?_
      refine postO_none HN.out rfl ?_
      iterate 3 refine Below.setCell ?_ (by simp; try omega) _
      exact HB9.out
    | true =>
      rw [hy] at CKd
      have HN := hid (show X = some (L, H ++ [⟨s.data.toList, lv, fs⟩], q) by rw [HX.out]; unfold ifOk; rw [hy]; rfl)
      clear hy
      go_wp2_with fail
      refine (CKd.out).mono ?_
      rintro e w9 ⟨rfl, hb9⟩
      have KR9 := hid (KR7.out.to hb9)
      have HB9 := hid (HW7.out.trans (hb9.mono HW7.out.size))
      have HR9 := hid (HR6.out.below hb9)
      clear hb9 b0 b1 b2
      obtain ⟨q0c, q0f⟩ := KR9.out.2 0 _ rfl
      obtain ⟨q1c, q1f⟩ := KR9.out.2 1 _ rfl
      obtain ⟨q2c, q2f⟩ := KR9.out.2 2 _ rfl
      go_wp2_with fail
      have RB := ((KR9.out.set 0 (.slice A ls.length c)).set 1 (.slice A5 n5 c5)).set 2 (.int .i64 q)
      have f0 := (RB.2 0 _ rfl).1
      have f1 := (RB.2 1 _ rfl).1
      have f2 := (RB.2 2 _ rfl).1
      refine bodyPost_ret (v := .tuple #[.agg #[.slice A ls.length c, .slice A5 n5 c5, .int .i64 q], .bool true]) (by simp [results, Tryz.results29, go_sem, f0, f1, f2]) rfl ?_
      rw [HN.out]
      refine ⟨_, _, rfl, HS7.out, ?_, ?_⟩
      · refine Rows.base ?_ (show w.heap.size ≤ w1.heap.size by omega)
        iterate 3 refine Rows.low ?_ (by omega)
        exact HR9.out
      · iterate 3 refine Below.setCell ?_ (by simp; try omega) _
        exact HB9.out
end Go.Proofs.YtioegkcekbkblaaGreat
