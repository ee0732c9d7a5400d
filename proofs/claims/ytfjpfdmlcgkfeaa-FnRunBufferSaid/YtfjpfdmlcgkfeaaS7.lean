/-
  STORES: PushRecord of the program. By gen_s7.py.
-/
import Derived.Test.YtfjpfdmlcgkfeaaS6
namespace Go.Proofs.Ytfjpfdmlcgkfeaa
open Go.RowKit Nm
set_option linter.unusedSimpArgs false
set_option linter.unusedVariables false

set_option maxHeartbeats 16000000 in
set_option maxRecDepth 100000 in
theorem implPushRecord_c {w : World} {B : Nat} {v : Value} {d : Buf} (nm tx : ByteArray) (rl sq : Int) (h : BufIn w B v d) (hB : B ≤ w.heap.size) (h1 : nm.size ≤ maxTxt) (h2 : tx.size ≤ maxTxt) :
    Calls Try.prog 32 #[v, .agg #[.string nm, .int .i64 rl, .string tx, .int .i64 sq]] w (PushPost w (pushXB d (⟨nm.data.toList, rl, tx.data.toList, sq⟩ : Rec)) (pushXR d (⟨nm.data.toList, rl, tx.data.toList, sq⟩ : Rec)) (pushOk d (⟨nm.data.toList, rl, tx.data.toList, sq⟩ : Rec))) := by
  have C1 := hid (fun (w1 : World) (hb : Below w.heap.size w w1) => implValidBuffer_c (h.below hb hB) (Nat.le_trans hB hb.size))
  have C3 := hid (fun (W : World) => implValidRecord_c nm tx rl sq W h1 h2)
  obtain ⟨i0, hi, hz0, hz1, hz2⟩ := info_parts Try.infoRecord
  obtain ⟨rm, lv, rc⟩ := d
  obtain ⟨u, rfl, hu⟩ := h
  have C2 := hid (fun (w1 : World) (hb : Below w.heap.size w w1) => freshRecs_c (hu.below hb hB))
  have hn := hu.2
  obtain ⟨A, c, rfl, hnc, hcm⟩ := hu.1.1.form
  clear hu
  dsimp only at *
  unfold maxTxt at hn
  have HL := hid (fun hz : bufOk ⟨rm, lv, rc⟩ = true => (bufOk_len hz).2)
  dsimp only at HL
  generalize hX0 : pushXB ⟨rm, lv, rc⟩ (⟨nm.data.toList, rl, tx.data.toList, sq⟩ : Rec) = X0
  generalize hX1 : pushXR ⟨rm, lv, rc⟩ (⟨nm.data.toList, rl, tx.data.toList, sq⟩ : Rec) = X1
  generalize hX2 : pushOk ⟨rm, lv, rc⟩ (⟨nm.data.toList, rl, tx.data.toList, sq⟩ : Rec) = X2
  unfold pushXB at hX0
  unfold pushXR at hX1
  unfold pushOk at hX0 hX1 hX2
  unfold pushB pushFull at hX0
  unfold pushR pushFull at hX1
  dsimp only at hX0 hX1
  generalize bufOk ⟨rm, lv, rc⟩ = z at C1 hX0 hX1 hX2 HL
  generalize recOk (⟨nm.data.toList, rl, tx.data.toList, sq⟩ : Rec) = y at C3 hX0 hX1 hX2
  have KB := hid (((Blk.new w #[.int .i64 rm, .int .i64 lv, .slice A rc.length c] 29).alloc (.cells #[.string nm, .int .i64 rl, .string tx, .int .i64 sq] 46)).alloc (.cells #[.int .i64 0, .int .i64 0, .slice none 0 0] 29))
  have KR := hid ((Blk.new (w.alloc (.cells #[.int .i64 rm, .int .i64 lv, .slice A rc.length c] 29)) #[.string nm, .int .i64 rl, .string tx, .int .i64 sq] 46).alloc (.cells #[.int .i64 0, .int .i64 0, .slice none 0 0] 29))
  have KO := hid (Blk.new ((w.alloc (.cells #[.int .i64 rm, .int .i64 lv, .slice A rc.length c] 29)).alloc (.cells #[.string nm, .int .i64 rl, .string tx, .int .i64 sq] 46)) #[.int .i64 0, .int .i64 0, .slice none 0 0] 29)
  simp only [World.size_alloc] at KR KO
  have HB := hid (show Below w.heap.size w (((w.alloc (.cells #[.int .i64 rm, .int .i64 lv, .slice A rc.length c] 29)).alloc (.cells #[.string nm, .int .i64 rl, .string tx, .int .i64 sq] 46)).alloc (.cells #[.int .i64 0, .int .i64 0, .slice none 0 0] 29)) from (((Below.refl _ _).alloc (Nat.le_refl _) _).alloc (by simp) _).alloc (by simp; omega) _)
  cases z with
  | false =>
    have E0 := hid (show X0 = ⟨0, 0, []⟩ from hX0.symm)
    have E1 := hid (show X1 = [] from hX1.symm)
    have E2 := hid (show X2 = false from hX2.symm)
    clear hX0 hX1 hX2
    go_enter Try.func32, Try.ntmps32
    go_wp2_with fail
    refine (C1.out _ HB.out).mono ?_
    rintro e w1 ⟨rfl, hb1⟩
    replace KB := hid (KB.out.to hb1)
    replace KR := hid (KR.out.to hb1)
    replace KO := hid (KO.out.to hb1)
    replace HB := hid (HB.out.trans (hb1.mono HB.out.size))
    clear hb1
    have d0 := (KB.out.2 0 _ rfl).1
    have d1 := (KB.out.2 1 _ rfl).1
    have d2 := (KB.out.2 2 _ rfl).1
    have r0 := (KR.out.2 0 _ rfl).1
    have r1 := (KR.out.2 1 _ rfl).1
    have r2 := (KR.out.2 2 _ rfl).1
    have r3 := (KR.out.2 3 _ rfl).1
    obtain ⟨q0c, q0f⟩ := KO.out.2 0 _ rfl
    obtain ⟨q1c, q1f⟩ := KO.out.2 1 _ rfl
    obtain ⟨q2c, q2f⟩ := KO.out.2 2 _ rfl
    go_wp2_with fail
    have RB := (((KO.out.set 0 (.int .i64 0)).set 1 (.int .i64 0)).set 2 (.slice none 0 0))
    have f0 := (RB.2 0 _ rfl).1
    have f1 := (RB.2 1 _ rfl).1
    have f2 := (RB.2 2 _ rfl).1
    refine bodyPost_ret (v := .tuple #[.agg #[.int .i64 0, .int .i64 0, .slice none 0 0], .slice none 0 0, .bool false]) (by simp [results, Try.results32, go_sem, f0, f1, f2]) rfl ?_
    rw [E0.out, E1.out, E2.out]
    refine push_none rfl ?_
    iterate 3 refine Below.setCell ?_ (by simp <;> omega) _
    exact HB.out
  | true =>
    cases y with
    | false =>
      have E0 := hid (show X0 = ⟨0, 0, []⟩ from hX0.symm)
      have E1 := hid (show X1 = [] from hX1.symm)
      have E2 := hid (show X2 = false from hX2.symm)
      clear hX0 hX1 hX2
      go_enter Try.func32, Try.ntmps32
      go_wp2_with fail
      refine (C1.out _ HB.out).mono ?_
      rintro e w1 ⟨rfl, hb1⟩
      replace KB := hid (KB.out.to hb1)
      replace KR := hid (KR.out.to hb1)
      replace KO := hid (KO.out.to hb1)
      replace HB := hid (HB.out.trans (hb1.mono HB.out.size))
      clear hb1
      have d0 := (KB.out.2 0 _ rfl).1
      have d1 := (KB.out.2 1 _ rfl).1
      have d2 := (KB.out.2 2 _ rfl).1
      have r0 := (KR.out.2 0 _ rfl).1
      have r1 := (KR.out.2 1 _ rfl).1
      have r2 := (KR.out.2 2 _ rfl).1
      have r3 := (KR.out.2 3 _ rfl).1
      obtain ⟨q0c, q0f⟩ := KO.out.2 0 _ rfl
      obtain ⟨q1c, q1f⟩ := KO.out.2 1 _ rfl
      obtain ⟨q2c, q2f⟩ := KO.out.2 2 _ rfl
      go_wp2_with fail
      refine (C3.out _).mono ?_
      rintro e w2 ⟨rfl, hb2⟩
      replace KB := hid (KB.out.to hb2)
      replace KR := hid (KR.out.to hb2)
      replace KO := hid (KO.out.to hb2)
      replace HB := hid (HB.out.trans (hb2.mono HB.out.size))
      clear hb2
      clear d0 d1 d2 r0 r1 r2 r3 q0c q0f q1c q1f q2c q2f
      have d0 := (KB.out.2 0 _ rfl).1
      have d1 := (KB.out.2 1 _ rfl).1
      have d2 := (KB.out.2 2 _ rfl).1
      have r0 := (KR.out.2 0 _ rfl).1
      have r1 := (KR.out.2 1 _ rfl).1
      have r2 := (KR.out.2 2 _ rfl).1
      have r3 := (KR.out.2 3 _ rfl).1
      obtain ⟨q0c, q0f⟩ := KO.out.2 0 _ rfl
      obtain ⟨q1c, q1f⟩ := KO.out.2 1 _ rfl
      obtain ⟨q2c, q2f⟩ := KO.out.2 2 _ rfl
      go_wp2_with fail
      have RB := (((KO.out.set 0 (.int .i64 0)).set 1 (.int .i64 0)).set 2 (.slice none 0 0))
      have f0 := (RB.2 0 _ rfl).1
      have f1 := (RB.2 1 _ rfl).1
      have f2 := (RB.2 2 _ rfl).1
      refine bodyPost_ret (v := .tuple #[.agg #[.int .i64 0, .int .i64 0, .slice none 0 0], .slice none 0 0, .bool false]) (by simp [results, Try.results32, go_sem, f0, f1, f2]) rfl ?_
      rw [E0.out, E1.out, E2.out]
      refine push_none rfl ?_
      iterate 3 refine Below.setCell ?_ (by simp <;> omega) _
      exact HB.out
    | true =>
      go_enter Try.func32, Try.ntmps32
      go_wp2_with fail
      refine (C1.out _ HB.out).mono ?_
      rintro e w1 ⟨rfl, hb1⟩
      replace KB := hid (KB.out.to hb1)
      replace KR := hid (KR.out.to hb1)
      replace KO := hid (KO.out.to hb1)
      replace HB := hid (HB.out.trans (hb1.mono HB.out.size))
      clear hb1
      have d0 := (KB.out.2 0 _ rfl).1
      have d1 := (KB.out.2 1 _ rfl).1
      have d2 := (KB.out.2 2 _ rfl).1
      have r0 := (KR.out.2 0 _ rfl).1
      have r1 := (KR.out.2 1 _ rfl).1
      have r2 := (KR.out.2 2 _ rfl).1
      have r3 := (KR.out.2 3 _ rfl).1
      obtain ⟨q0c, q0f⟩ := KO.out.2 0 _ rfl
      obtain ⟨q1c, q1f⟩ := KO.out.2 1 _ rfl
      obtain ⟨q2c, q2f⟩ := KO.out.2 2 _ rfl
      go_wp2_with fail
      refine (C3.out _).mono ?_
      rintro e w2 ⟨rfl, hb2⟩
      replace KB := hid (KB.out.to hb2)
      replace KR := hid (KR.out.to hb2)
      replace KO := hid (KO.out.to hb2)
      replace HB := hid (HB.out.trans (hb2.mono HB.out.size))
      clear hb2
      clear d0 d1 d2 r0 r1 r2 r3 q0c q0f q1c q1f q2c q2f
      have HLT := hid (show w.heap.size + 2 < w2.heap.size by have := KO.out.1; omega)
      have HBS := hid (show w.heap.size ≤ w2.heap.size from HB.out.size)
      go_wp2_with fail
      replace KB := hid (KB.out.dr 1)
      replace KR := hid (KR.out.dr 1)
      replace KO := hid (KO.out.dr 1)
      replace HB := hid HB.out.drew
      refine wp_region_held_drew (S := (fun w' : World => w'.cell? ⟨w.heap.size, 2, none⟩ = some (.slice A rc.length c) ∧ w'.cell? ⟨w.heap.size + 1, 0, none⟩ = some (.string nm) ∧ w'.cell? ⟨w.heap.size + 1, 1, none⟩ = some (.int .i64 rl) ∧ w'.cell? ⟨w.heap.size + 1, 2, none⟩ = some (.string tx) ∧ w'.cell? ⟨w.heap.size + 1, 3, none⟩ = some (.int .i64 sq))) (by kernel_rfl) ⟨(KB.out.2 2 _ rfl).1, (KR.out.2 0 _ rfl).1, (KR.out.2 1 _ rfl).1, (KR.out.2 2 _ rfl).1, (KR.out.2 3 _ rfl).1⟩ (fun hS => ?_)
      refine wpAnyH_take (i := 0) (oi := ?oi101) (v := ?v101) ?hi101 (by kernel_rfl) ?hf101 ?hr101 ?hQ101 (Or.inl ⟨?hw101, ?hy101⟩) (by assumption) ?rest101
      case hi101 => simp only [List.getElem?_toArray, List.getElem?_cons_succ, List.getElem?_cons_zero]; rfl
      case hf101 => kernel_rfl
      case hr101 => kernel_rfl
      case hw101 => rfl
      case hy101 => (intro w hSw; (try dsimp only at hSw); go_simp; all_goals (first | done | with_reducible rfl))
      case hQ101 => exact fun _ _ _ h => h
      simp only [Act.put, List.setIfInBounds_toArray, List.set_cons_zero, List.set_cons_succ]
      refine wpAnyH_take (i := 1) (oi := ?oi102) (v := ?v102) ?hi102 (by kernel_rfl) ?hf102 ?hr102 ?hQ102 (Or.inl ⟨?hw102, ?hy102⟩) (by assumption) ?rest102
      case hi102 => simp only [List.getElem?_toArray, List.getElem?_cons_succ, List.getElem?_cons_zero]; rfl
      case hf102 => kernel_rfl
      case hr102 => kernel_rfl
      case hw102 => rfl
      case hy102 => (intro w hSw; (try dsimp only at hSw); go_simp; all_goals (first | done | with_reducible rfl))
      case hQ102 => exact fun _ _ _ h => h
      simp only [Act.put, List.setIfInBounds_toArray, List.set_cons_zero, List.set_cons_succ]
      refine wpAnyH_take (i := 3) (oi := ?oi103) (v := ?v103) ?hi103 (by kernel_rfl) ?hf103 ?hr103 ?hQ103 (Or.inl ⟨?hw103, ?hy103⟩) (by assumption) ?rest103
      case hi103 => simp only [List.getElem?_toArray, List.getElem?_cons_succ, List.getElem?_cons_zero]; rfl
      case hf103 => kernel_rfl
      case hr103 => kernel_rfl
      case hw103 => rfl
      case hy103 => (intro w hSw; (try dsimp only at hSw); go_simp; all_goals (first | done | with_reducible rfl))
      case hQ103 => exact fun _ _ _ h => h
      simp only [Act.put, List.setIfInBounds_toArray, List.set_cons_zero, List.set_cons_succ]
      refine wpAnyH_ready (rs := [2, 4]) (by kernel_rfl) (by simp) ?_
      refine AllReadyH.cons (o := ?oi104) ?hi104 (fun K hK => ?stepA104) (AllReadyH.cons (o := ?oj104) ?hj104 (fun K hK => ?stepB104) AllReadyH.nil)
      case hi104 => simp only [List.getElem?_toArray, List.getElem?_cons_succ, List.getElem?_cons_zero]; rfl
      case hj104 => simp only [List.getElem?_toArray, List.getElem?_cons_succ, List.getElem?_cons_zero]; rfl
      all_goals rw [if_pos (by rfl)]
      all_goals go_simp
      · go_at_call 31
        refine (C2.out _ HB.out).mono ?_
        rintro e w3 ⟨u, rfl, ho, hb2⟩
        obtain ⟨A2, c2, rfl, _, _⟩ := (Sl.of_own ho).form
        replace KB := hid (KB.out.to hb2)
        replace KR := hid (KR.out.to hb2)
        replace KO := hid (KO.out.to hb2)
        replace HB := hid (HB.out.trans (hb2.mono HB.out.size))
        have HO := hid (own_base ho (base' := w2.heap.size) (by simp))
        have HS := hid (show w2.heap.size ≤ (w3.alloc (.cells #[.string nm, .int .i64 rl, .string tx, .int .i64 sq] 46)).heap.size by have := hb2.size; simp at this ⊢; omega)
        clear ho hb2
        refine hK.out _ _ ⟨(KB.out.2 2 _ rfl).1, (KR.out.2 0 _ rfl).1, (KR.out.2 1 _ rfl).1, (KR.out.2 2 _ rfl).1, (KR.out.2 3 _ rfl).1⟩ (fun _ => ?_)
        refine wpAnyH_ready (rs := [4]) (by kernel_rfl) (by simp) ?_
        refine AllReadyH.cons (o := ?oi105) ?hi105 (fun K hK => ?step105) AllReadyH.nil
        case hi105 => simp only [List.getElem?_toArray, List.getElem?_cons_succ, List.getElem?_cons_zero]; rfl
        rw [if_pos (by rfl)]
        go_simp
        replace HO := hid (HO.out.alloc (.cells #[.string nm, .int .i64 rl, .string tx, .int .i64 sq] 46))
        have KL := hid (Blk.new w3 #[.string nm, .int .i64 rl, .string tx, .int .i64 sq] 46)
        replace KB := hid (KB.out.alloc (.cells #[.string nm, .int .i64 rl, .string tx, .int .i64 sq] 46))
        replace KR := hid (KR.out.alloc (.cells #[.string nm, .int .i64 rl, .string tx, .int .i64 sq] 46))
        replace KO := hid (KO.out.alloc (.cells #[.string nm, .int .i64 rl, .string tx, .int .i64 sq] 46))
        replace HB := hid (HB.out.alloc HB.out.size (.cells #[.string nm, .int .i64 rl, .string tx, .int .i64 sq] 46))
        refine hK.out _ _ ⟨(KB.out.2 2 _ rfl).1, (KR.out.2 0 _ rfl).1, (KR.out.2 1 _ rfl).1, (KR.out.2 2 _ rfl).1, (KR.out.2 3 _ rfl).1⟩ (fun _ => ?_)
        refine wpAnyH_ready (rs := [5]) (by kernel_rfl) (by simp) ?_
        refine AllReadyH.cons (o := ?oi106) ?hi106 (fun K hK => ?step106) AllReadyH.nil
        case hi106 => simp only [List.getElem?_toArray, List.getElem?_cons_succ, List.getElem?_cons_zero]; rfl
        rw [if_pos (by rfl)]
        refine wp_appG rfl rfl (w2.heap.size) 46 i0 _ 4 48 Try.underlying27 hi hz0 hz1 hz2 rfl (by decide) (by rfl) HO.out (by rfl) (Sl.one KL.out rfl) (rec_one nm tx rl sq) (by unfold maxLen; omega) (by omega) HS.out ?_
        intro v4 w4 ho4 hg4 _
        obtain ⟨A4, c4, rfl, _, _⟩ := (Sl.of_own ho4).form
        have hb4 := below_of_grown hg4 HS.out (own_lt HO.out)
        replace KB := hid (KB.out.below hb4 (by have := HLT.out; omega))
        replace KR := hid (KR.out.below hb4 (by have := HLT.out; omega))
        replace KO := hid (KO.out.below hb4 (by have := HLT.out; omega))
        replace HB := hid (HB.out.trans (hb4.mono HBS.out))
        have HO4 := hid (show w4.ownsRow (w2.heap.size) 46 4 (.slice A4 (rc.length + 1) c4) (rc ++ [(⟨nm.data.toList, rl, tx.data.toList, sq⟩ : Rec)]).length ((rc ++ [(⟨nm.data.toList, rl, tx.data.toList, sq⟩ : Rec)]).flatMap rcells) from own_snoc (f := rcells) (x := (⟨nm.data.toList, rl, tx.data.toList, sq⟩ : Rec)) (by simpa [rcells, txt_data] using ho4))
        have HS4 := hid (Nat.le_trans HS.out hg4.size)
        clear ho4 hg4 hb4
        refine hK.out _ _ ⟨(KB.out.2 2 _ rfl).1, (KR.out.2 0 _ rfl).1, (KR.out.2 1 _ rfl).1, (KR.out.2 2 _ rfl).1, (KR.out.2 3 _ rfl).1⟩ (fun _ => ?_)
        refine wpAnyH_take (i := 6) (oi := ?oi107) (v := ?v107) ?hi107 (by kernel_rfl) ?hf107 ?hr107 ?hQ107 (Or.inl ⟨?hw107, ?hy107⟩) (by assumption) ?rest107
        case hi107 => simp only [List.getElem?_toArray, List.getElem?_cons_succ, List.getElem?_cons_zero]; rfl
        case hf107 => kernel_rfl
        case hr107 => kernel_rfl
        case hw107 => rfl
        case hy107 => (intro w hSw; (try dsimp only at hSw); go_simp; all_goals (first | done | with_reducible rfl))
        case hQ107 => exact fun _ _ _ h => h
        simp only [Act.put, List.setIfInBounds_toArray, List.set_cons_zero, List.set_cons_succ]
        refine wpAnyH_done (by kernel_rfl) ?_ _
        by_cases hf : rm ≤ (rc.length : Int) + 1
        · have E0 := hid (show X0 = ⟨rm, lv, []⟩ by rw [← hX0]; simp [hf])
          have E1 := hid (show X1 = rc ++ [(⟨nm.data.toList, rl, tx.data.toList, sq⟩ : Rec)] by rw [← hX1]; simp [hf])
          have E2 := hid (show X2 = true from hX2.symm)
          clear hX0 hX1 hX2
          have hq : (((rc.length + 1 : Nat) : Int) == rm) = true := by have := HL.out (by trivial); simp; omega
          have hq2 : ((rc.length : Int) + 1 == rm) = true := by have := HL.out (by trivial); simp; omega
          obtain ⟨d0c, d0f⟩ := KB.out.2 0 _ rfl
          obtain ⟨d1c, d1f⟩ := KB.out.2 1 _ rfl
          obtain ⟨d2c, d2f⟩ := KB.out.2 2 _ rfl
          have r1 := (KR.out.2 1 _ rfl).1
          obtain ⟨q0c, q0f⟩ := KO.out.2 0 _ rfl
          obtain ⟨q1c, q1f⟩ := KO.out.2 1 _ rfl
          obtain ⟨q2c, q2f⟩ := KO.out.2 2 _ rfl
          go_wp2_with fail
          have RB := ((((KO.out.apart ⟨w.heap.size, 2, none⟩ (.slice none 0 0) (by simp <;> omega)).set 0 (.int .i64 rm)).set 1 (.int .i64 lv)).set 2 (.slice none 0 0))
          have f0 := (RB.2 0 _ rfl).1
          have f1 := (RB.2 1 _ rfl).1
          have f2 := (RB.2 2 _ rfl).1
          refine bodyPost_ret (v := .tuple #[.agg #[.int .i64 rm, .int .i64 lv, .slice none 0 0], .slice A4 (rc.length + 1) c4, .bool true]) (by simp [results, Try.results32, go_sem, f0, f1, f2]) rfl ?_
          rw [E0.out, E1.out, E2.out]
          have hlt := HLT.out
          refine ⟨_, _, _, _, rfl, ⟨_, rfl, rfl⟩, rfl, Rows.cons_nil (Rows.base (lo := w2.heap.size) ?_ (by omega)), ?_⟩
          · iterate 4 refine Rows.low ?_ (by omega)
            exact (Rows.one (r := ⟨46, 4, _, _, _⟩) HO4.out)
          · iterate 4 refine Below.setCell ?_ (by simp <;> omega) _
            exact HB.out
        by_cases hl : lv ≤ rl
        · have E0 := hid (show X0 = ⟨rm, lv, []⟩ by rw [← hX0]; simp [hl])
          have E1 := hid (show X1 = rc ++ [(⟨nm.data.toList, rl, tx.data.toList, sq⟩ : Rec)] by rw [← hX1]; simp [hl])
          have E2 := hid (show X2 = true from hX2.symm)
          clear hX0 hX1 hX2
          have hq : (((rc.length + 1 : Nat) : Int) == rm) = false := by have := HL.out (by trivial); simp; omega
          have hq2 : ((rc.length : Int) + 1 == rm) = false := by have := HL.out (by trivial); simp; omega
          obtain ⟨d0c, d0f⟩ := KB.out.2 0 _ rfl
          obtain ⟨d1c, d1f⟩ := KB.out.2 1 _ rfl
          obtain ⟨d2c, d2f⟩ := KB.out.2 2 _ rfl
          have r1 := (KR.out.2 1 _ rfl).1
          obtain ⟨q0c, q0f⟩ := KO.out.2 0 _ rfl
          obtain ⟨q1c, q1f⟩ := KO.out.2 1 _ rfl
          obtain ⟨q2c, q2f⟩ := KO.out.2 2 _ rfl
          go_wp2_with fail
          have RB := ((((KO.out.apart ⟨w.heap.size, 2, none⟩ (.slice none 0 0) (by simp <;> omega)).set 0 (.int .i64 rm)).set 1 (.int .i64 lv)).set 2 (.slice none 0 0))
          have f0 := (RB.2 0 _ rfl).1
          have f1 := (RB.2 1 _ rfl).1
          have f2 := (RB.2 2 _ rfl).1
          refine bodyPost_ret (v := .tuple #[.agg #[.int .i64 rm, .int .i64 lv, .slice none 0 0], .slice A4 (rc.length + 1) c4, .bool true]) (by simp [results, Try.results32, go_sem, f0, f1, f2]) rfl ?_
          rw [E0.out, E1.out, E2.out]
          have hlt := HLT.out
          refine ⟨_, _, _, _, rfl, ⟨_, rfl, rfl⟩, rfl, Rows.cons_nil (Rows.base (lo := w2.heap.size) ?_ (by omega)), ?_⟩
          · iterate 4 refine Rows.low ?_ (by omega)
            exact (Rows.one (r := ⟨46, 4, _, _, _⟩) HO4.out)
          · iterate 4 refine Below.setCell ?_ (by simp <;> omega) _
            exact HB.out
        have E0 := hid (show X0 = ⟨rm, lv, rc ++ [(⟨nm.data.toList, rl, tx.data.toList, sq⟩ : Rec)]⟩ by rw [← hX0]; simp [hf, hl])
        have E1 := hid (show X1 = [] by rw [← hX1]; simp [hf, hl])
        have E2 := hid (show X2 = true from hX2.symm)
        clear hX0 hX1 hX2
        have hq : (((rc.length + 1 : Nat) : Int) == rm) = false := by have := HL.out (by trivial); simp; omega
        have hq2 : ((rc.length : Int) + 1 == rm) = false := by have := HL.out (by trivial); simp; omega
        obtain ⟨d0c, d0f⟩ := KB.out.2 0 _ rfl
        obtain ⟨d1c, d1f⟩ := KB.out.2 1 _ rfl
        obtain ⟨d2c, d2f⟩ := KB.out.2 2 _ rfl
        have r1 := (KR.out.2 1 _ rfl).1
        obtain ⟨q0c, q0f⟩ := KO.out.2 0 _ rfl
        obtain ⟨q1c, q1f⟩ := KO.out.2 1 _ rfl
        obtain ⟨q2c, q2f⟩ := KO.out.2 2 _ rfl
        go_wp2_with fail
        have RB := ((((KO.out.apart ⟨w.heap.size, 2, none⟩ (.slice A4 (rc.length + 1) c4) (by simp <;> omega)).set 0 (.int .i64 rm)).set 1 (.int .i64 lv)).set 2 (.slice A4 (rc.length + 1) c4))
        have f0 := (RB.2 0 _ rfl).1
        have f1 := (RB.2 1 _ rfl).1
        have f2 := (RB.2 2 _ rfl).1
        refine bodyPost_ret (v := .tuple #[.agg #[.int .i64 rm, .int .i64 lv, .slice A4 (rc.length + 1) c4], .slice none 0 0, .bool true]) (by simp [results, Try.results32, go_sem, f0, f1, f2]) rfl ?_
        rw [E0.out, E1.out, E2.out]
        have hlt := HLT.out
        refine ⟨_, _, _, _, rfl, ⟨_, rfl, rfl⟩, rfl, Rows.base (lo := w2.heap.size) ?_ (by omega), ?_⟩
        · iterate 4 refine Rows.low ?_ (by omega)
          exact (Rows.cons_nil (Rows.one (r := ⟨46, 4, _, _, _⟩) HO4.out)).perm (List.Perm.swap _ _ _)
        · iterate 4 refine Below.setCell ?_ (by simp <;> omega) _
          exact HB.out
      · have KL := hid (show Blk (w2.drew.alloc (.cells #[.string nm, .int .i64 rl, .string tx, .int .i64 sq] 46)) (w2.heap.size) [.string nm, .int .i64 rl, .string tx, .int .i64 sq] by have h := Blk.new w2.drew #[.string nm, .int .i64 rl, .string tx, .int .i64 sq] 46; simpa using h)
        replace KB := hid (KB.out.alloc (.cells #[.string nm, .int .i64 rl, .string tx, .int .i64 sq] 46))
        replace KR := hid (KR.out.alloc (.cells #[.string nm, .int .i64 rl, .string tx, .int .i64 sq] 46))
        replace KO := hid (KO.out.alloc (.cells #[.string nm, .int .i64 rl, .string tx, .int .i64 sq] 46))
        replace HB := hid (HB.out.alloc HB.out.size (.cells #[.string nm, .int .i64 rl, .string tx, .int .i64 sq] 46))
        refine hK.out _ _ ⟨(KB.out.2 2 _ rfl).1, (KR.out.2 0 _ rfl).1, (KR.out.2 1 _ rfl).1, (KR.out.2 2 _ rfl).1, (KR.out.2 3 _ rfl).1⟩ (fun _ => ?_)
        refine wpAnyH_ready (rs := [2]) (by kernel_rfl) (by simp) ?_
        refine AllReadyH.cons (o := ?oi108) ?hi108 (fun K hK => ?step108) AllReadyH.nil
        case hi108 => simp only [List.getElem?_toArray, List.getElem?_cons_succ, List.getElem?_cons_zero]; rfl
        rw [if_pos (by rfl)]
        go_simp
        go_at_call 31
        refine (C2.out _ HB.out).mono ?_
        rintro e w3 ⟨u, rfl, ho, hb2⟩
        obtain ⟨A2, c2, rfl, _, _⟩ := (Sl.of_own ho).form
        replace KB := hid (KB.out.to hb2)
        replace KR := hid (KR.out.to hb2)
        replace KO := hid (KO.out.to hb2)
        replace HB := hid (HB.out.trans (hb2.mono HB.out.size))
        replace KL := hid (KL.out.to hb2)
        have HO := hid (own_base ho (base' := w2.heap.size) (by simp))
        have HS := hid (show w2.heap.size ≤ w3.heap.size by have := hb2.size; simp at this ⊢; omega)
        clear ho hb2
        refine hK.out _ _ ⟨(KB.out.2 2 _ rfl).1, (KR.out.2 0 _ rfl).1, (KR.out.2 1 _ rfl).1, (KR.out.2 2 _ rfl).1, (KR.out.2 3 _ rfl).1⟩ (fun _ => ?_)
        refine wpAnyH_ready (rs := [5]) (by kernel_rfl) (by simp) ?_
        refine AllReadyH.cons (o := ?oi109) ?hi109 (fun K hK => ?step109) AllReadyH.nil
        case hi109 => simp only [List.getElem?_toArray, List.getElem?_cons_succ, List.getElem?_cons_zero]; rfl
        rw [if_pos (by rfl)]
        refine wp_appG rfl rfl (w2.heap.size) 46 i0 _ 4 48 Try.underlying27 hi hz0 hz1 hz2 rfl (by decide) (by rfl) HO.out (by rfl) (Sl.one KL.out rfl) (rec_one nm tx rl sq) (by unfold maxLen; omega) (by omega) HS.out ?_
        intro v4 w4 ho4 hg4 _
        obtain ⟨A4, c4, rfl, _, _⟩ := (Sl.of_own ho4).form
        have hb4 := below_of_grown hg4 HS.out (own_lt HO.out)
        replace KB := hid (KB.out.below hb4 (by have := HLT.out; omega))
        replace KR := hid (KR.out.below hb4 (by have := HLT.out; omega))
        replace KO := hid (KO.out.below hb4 (by have := HLT.out; omega))
        replace HB := hid (HB.out.trans (hb4.mono HBS.out))
        have HO4 := hid (show w4.ownsRow (w2.heap.size) 46 4 (.slice A4 (rc.length + 1) c4) (rc ++ [(⟨nm.data.toList, rl, tx.data.toList, sq⟩ : Rec)]).length ((rc ++ [(⟨nm.data.toList, rl, tx.data.toList, sq⟩ : Rec)]).flatMap rcells) from own_snoc (f := rcells) (x := (⟨nm.data.toList, rl, tx.data.toList, sq⟩ : Rec)) (by simpa [rcells, txt_data] using ho4))
        have HS4 := hid (Nat.le_trans HS.out hg4.size)
        clear ho4 hg4 hb4
        refine hK.out _ _ ⟨(KB.out.2 2 _ rfl).1, (KR.out.2 0 _ rfl).1, (KR.out.2 1 _ rfl).1, (KR.out.2 2 _ rfl).1, (KR.out.2 3 _ rfl).1⟩ (fun _ => ?_)
        refine wpAnyH_take (i := 6) (oi := ?oi110) (v := ?v110) ?hi110 (by kernel_rfl) ?hf110 ?hr110 ?hQ110 (Or.inl ⟨?hw110, ?hy110⟩) (by assumption) ?rest110
        case hi110 => simp only [List.getElem?_toArray, List.getElem?_cons_succ, List.getElem?_cons_zero]; rfl
        case hf110 => kernel_rfl
        case hr110 => kernel_rfl
        case hw110 => rfl
        case hy110 => (intro w hSw; (try dsimp only at hSw); go_simp; all_goals (first | done | with_reducible rfl))
        case hQ110 => exact fun _ _ _ h => h
        simp only [Act.put, List.setIfInBounds_toArray, List.set_cons_zero, List.set_cons_succ]
        refine wpAnyH_done (by kernel_rfl) ?_ _
        by_cases hf : rm ≤ (rc.length : Int) + 1
        · have E0 := hid (show X0 = ⟨rm, lv, []⟩ by rw [← hX0]; simp [hf])
          have E1 := hid (show X1 = rc ++ [(⟨nm.data.toList, rl, tx.data.toList, sq⟩ : Rec)] by rw [← hX1]; simp [hf])
          have E2 := hid (show X2 = true from hX2.symm)
          clear hX0 hX1 hX2
          have hq : (((rc.length + 1 : Nat) : Int) == rm) = true := by have := HL.out (by trivial); simp; omega
          have hq2 : ((rc.length : Int) + 1 == rm) = true := by have := HL.out (by trivial); simp; omega
          obtain ⟨d0c, d0f⟩ := KB.out.2 0 _ rfl
          obtain ⟨d1c, d1f⟩ := KB.out.2 1 _ rfl
          obtain ⟨d2c, d2f⟩ := KB.out.2 2 _ rfl
          have r1 := (KR.out.2 1 _ rfl).1
          obtain ⟨q0c, q0f⟩ := KO.out.2 0 _ rfl
          obtain ⟨q1c, q1f⟩ := KO.out.2 1 _ rfl
          obtain ⟨q2c, q2f⟩ := KO.out.2 2 _ rfl
          go_wp2_with fail
          have RB := ((((KO.out.apart ⟨w.heap.size, 2, none⟩ (.slice none 0 0) (by simp <;> omega)).set 0 (.int .i64 rm)).set 1 (.int .i64 lv)).set 2 (.slice none 0 0))
          have f0 := (RB.2 0 _ rfl).1
          have f1 := (RB.2 1 _ rfl).1
          have f2 := (RB.2 2 _ rfl).1
          refine bodyPost_ret (v := .tuple #[.agg #[.int .i64 rm, .int .i64 lv, .slice none 0 0], .slice A4 (rc.length + 1) c4, .bool true]) (by simp [results, Try.results32, go_sem, f0, f1, f2]) rfl ?_
          rw [E0.out, E1.out, E2.out]
          have hlt := HLT.out
          refine ⟨_, _, _, _, rfl, ⟨_, rfl, rfl⟩, rfl, Rows.cons_nil (Rows.base (lo := w2.heap.size) ?_ (by omega)), ?_⟩
          · iterate 4 refine Rows.low ?_ (by omega)
            exact (Rows.one (r := ⟨46, 4, _, _, _⟩) HO4.out)
          · iterate 4 refine Below.setCell ?_ (by simp <;> omega) _
            exact HB.out
        by_cases hl : lv ≤ rl
        · have E0 := hid (show X0 = ⟨rm, lv, []⟩ by rw [← hX0]; simp [hl])
          have E1 := hid (show X1 = rc ++ [(⟨nm.data.toList, rl, tx.data.toList, sq⟩ : Rec)] by rw [← hX1]; simp [hl])
          have E2 := hid (show X2 = true from hX2.symm)
          clear hX0 hX1 hX2
          have hq : (((rc.length + 1 : Nat) : Int) == rm) = false := by have := HL.out (by trivial); simp; omega
          have hq2 : ((rc.length : Int) + 1 == rm) = false := by have := HL.out (by trivial); simp; omega
          obtain ⟨d0c, d0f⟩ := KB.out.2 0 _ rfl
          obtain ⟨d1c, d1f⟩ := KB.out.2 1 _ rfl
          obtain ⟨d2c, d2f⟩ := KB.out.2 2 _ rfl
          have r1 := (KR.out.2 1 _ rfl).1
          obtain ⟨q0c, q0f⟩ := KO.out.2 0 _ rfl
          obtain ⟨q1c, q1f⟩ := KO.out.2 1 _ rfl
          obtain ⟨q2c, q2f⟩ := KO.out.2 2 _ rfl
          go_wp2_with fail
          have RB := ((((KO.out.apart ⟨w.heap.size, 2, none⟩ (.slice none 0 0) (by simp <;> omega)).set 0 (.int .i64 rm)).set 1 (.int .i64 lv)).set 2 (.slice none 0 0))
          have f0 := (RB.2 0 _ rfl).1
          have f1 := (RB.2 1 _ rfl).1
          have f2 := (RB.2 2 _ rfl).1
          refine bodyPost_ret (v := .tuple #[.agg #[.int .i64 rm, .int .i64 lv, .slice none 0 0], .slice A4 (rc.length + 1) c4, .bool true]) (by simp [results, Try.results32, go_sem, f0, f1, f2]) rfl ?_
          rw [E0.out, E1.out, E2.out]
          have hlt := HLT.out
          refine ⟨_, _, _, _, rfl, ⟨_, rfl, rfl⟩, rfl, Rows.cons_nil (Rows.base (lo := w2.heap.size) ?_ (by omega)), ?_⟩
          · iterate 4 refine Rows.low ?_ (by omega)
            exact (Rows.one (r := ⟨46, 4, _, _, _⟩) HO4.out)
          · iterate 4 refine Below.setCell ?_ (by simp <;> omega) _
            exact HB.out
        have E0 := hid (show X0 = ⟨rm, lv, rc ++ [(⟨nm.data.toList, rl, tx.data.toList, sq⟩ : Rec)]⟩ by rw [← hX0]; simp [hf, hl])
        have E1 := hid (show X1 = [] by rw [← hX1]; simp [hf, hl])
        have E2 := hid (show X2 = true from hX2.symm)
        clear hX0 hX1 hX2
        have hq : (((rc.length + 1 : Nat) : Int) == rm) = false := by have := HL.out (by trivial); simp; omega
        have hq2 : ((rc.length : Int) + 1 == rm) = false := by have := HL.out (by trivial); simp; omega
        obtain ⟨d0c, d0f⟩ := KB.out.2 0 _ rfl
        obtain ⟨d1c, d1f⟩ := KB.out.2 1 _ rfl
        obtain ⟨d2c, d2f⟩ := KB.out.2 2 _ rfl
        have r1 := (KR.out.2 1 _ rfl).1
        obtain ⟨q0c, q0f⟩ := KO.out.2 0 _ rfl
        obtain ⟨q1c, q1f⟩ := KO.out.2 1 _ rfl
        obtain ⟨q2c, q2f⟩ := KO.out.2 2 _ rfl
        go_wp2_with fail
        have RB := ((((KO.out.apart ⟨w.heap.size, 2, none⟩ (.slice A4 (rc.length + 1) c4) (by simp <;> omega)).set 0 (.int .i64 rm)).set 1 (.int .i64 lv)).set 2 (.slice A4 (rc.length + 1) c4))
        have f0 := (RB.2 0 _ rfl).1
        have f1 := (RB.2 1 _ rfl).1
        have f2 := (RB.2 2 _ rfl).1
        refine bodyPost_ret (v := .tuple #[.agg #[.int .i64 rm, .int .i64 lv, .slice A4 (rc.length + 1) c4], .slice none 0 0, .bool true]) (by simp [results, Try.results32, go_sem, f0, f1, f2]) rfl ?_
        rw [E0.out, E1.out, E2.out]
        have hlt := HLT.out
        refine ⟨_, _, _, _, rfl, ⟨_, rfl, rfl⟩, rfl, Rows.base (lo := w2.heap.size) ?_ (by omega), ?_⟩
        · iterate 4 refine Rows.low ?_ (by omega)
          exact (Rows.cons_nil (Rows.one (r := ⟨46, 4, _, _, _⟩) HO4.out)).perm (List.Perm.swap _ _ _)
        · iterate 4 refine Below.setCell ?_ (by simp <;> omega) _
          exact HB.out
theorem recsFit_snoc {l : List Rec} {x : Rec} (h : RecsFit l) (hl : l.length ≤ 12) (hx : rcellsFit x) : RecsFit (l ++ [x]) :=
  ⟨by rw [List.length_append]; show l.length + 1 ≤ maxTxt; unfold maxTxt; omega, fun y hy => by
    rcases List.mem_append.1 hy with hy | hy
    · exact h.2 y hy
    · obtain rfl := List.mem_singleton.1 hy; exact hx⟩
theorem pushXB_fit {d : Buf} {r : Rec} (h : BufFit d) (hx : rcellsFit r) : BufFit (pushXB d r) := by
  unfold pushXB pushOk
  cases hz : bufOk d with
  | false => exact RecsFit.nil
  | true =>
    cases recOk r with
    | false => exact RecsFit.nil
    | true =>
      show BufFit (pushB d r)
      unfold pushB
      split
      · exact RecsFit.nil
      · exact recsFit_snoc h (bufOk_len hz).1 hx
theorem pushXR_fit {d : Buf} {r : Rec} (h : BufFit d) (hx : rcellsFit r) : RecsFit (pushXR d r) := by
  unfold pushXR pushOk
  cases hz : bufOk d with
  | false => exact RecsFit.nil
  | true =>
    cases recOk r with
    | false => exact RecsFit.nil
    | true =>
      show RecsFit (pushR d r)
      unfold pushR
      split
      · exact recsFit_snoc h (bufOk_len hz).1 hx
      · exact RecsFit.nil
end Go.Proofs.Ytfjpfdmlcgkfeaa
