/-
  WALK: the law FnDropRepeats. By gen_draw.py.
-/
import Derived.Test.YthgkkckbncgfmaaD11
import Derived.Test.YthgkkckbncgfmaaD8
namespace Go.Proofs.Ythgkkckbncgfmaa
open Go.RowKit Nm
set_option linter.unusedSimpArgs false
set_option linter.unusedVariables false

set_option maxHeartbeats 8000000 in
set_option maxRecDepth 100000 in
theorem walk_FnDropRepeats (a0 : Option Addr) (len0 cap0 : Nat) (z0 : List Int) (w : World) (w0 : IsRow .u8 w a0 len0 cap0 z0) :
    Calls Try.prog 4 #[.slice a0 len0 cap0] w (BoolPost w true) := by
  have hb0 := w0.le
  have HB := hid (Below.refl w.heap.size w)
  by_cases h1 : (1048576 : Int) < (len0 : Int)
  · go_enter Try.func4, Try.ntmps4
    go_wp2_with fail
    go_ret
    exact ⟨rfl, HB.out⟩
  have DR := hid (drawDropRepeats_c a0 len0 cap0 z0 w w0)
  clear w0
  go_enter Try.func4, Try.ntmps4
  go_wp2_with fail
  refine DR.out.mono ?_
  rintro e w1 ⟨v, rsL, l, rfl, hs0, hr, hb, hf⟩
  obtain ⟨fL0, fL1, fL2, rfl⟩ := hs0.form hr
  have SL := hid hs0
  clear hs0
  have HR := hid (hr.base HB.out.size)
  replace HB := hid (HB.out.trans (hb.mono HB.out.size))
  clear hb hr
  clear DR
  have FL := hid hf
  clear hf
  have C1 := hid (fun (W : World) (u : Value) (h : RecsIn W W.heap.size u l) => iDropRepeats h)
  have C2 := hid (fun (W : World) (u : Value) (h : RecsIn W W.heap.size u l) => sDropRepeats h)
  have C3 := hid (fun (W : World) (u : Value) (h : RecsIn W W.heap.size u l) => iValidRecords h)
  have FD := hid (fit_sub FL.out (drop_sub l).1 (drop_sub l).2)
  have HA := hid (drop_adj l)
  have HH := hid (fun (hz : recsOk l = true) => drop_head hz)
  have K1 := hid (fun (hz : recsOk l = true) (W : World) (u : Value) (h : RecsIn W W.heap.size u (dropReps l)) => (show Calls Try.prog 17 #[u] W (RecsOut W (dropReps l)) by have h9 := iDropRepeats h; rwa [drop_again hz] at h9))
  generalize dropReps l = Y at *
  generalize recsOk l = q at *
  go_wp2_with fail
  refine (C1.out _ _ (SL.out.at_ (HR.out) FL.out)).mono ?_
  rintro e w2 ⟨u, rsO, rfl, hs0, hr, hb⟩
  obtain ⟨fO0, fO1, fO2, rfl⟩ := hs0.form hr
  have SO := hid hs0
  clear hs0
  replace HR := hid (HR.out.newer hb hr HB.out.size)
  replace HB := hid (HB.out.trans (hb.mono HB.out.size))
  clear hb hr
  have FO := hid FD.out
  go_wp2_with fail
  refine (C2.out _ _ (SL.out.at_ (HR.out.right) FL.out)).mono ?_
  rintro e w3 ⟨u, rsW, rfl, hs0, hr, hb⟩
  obtain ⟨fW0, fW1, fW2, rfl⟩ := hs0.form hr
  have SW := hid hs0
  clear hs0
  replace HR := hid (HR.out.newer hb hr HB.out.size)
  replace HB := hid (HB.out.trans (hb.mono HB.out.size))
  clear hb hr
  have FW := hid FD.out
  go_wp2_with fail
  refine (equalRecsX_c SO.out (HR.out.right.left) SW.out (HR.out.left)).mono ?_
  rintro e w4 ⟨rfl, hb⟩
  replace HR := hid (HR.out.below hb)
  replace HB := hid (HB.out.trans (hb.mono HB.out.size))
  clear hb
  replace HR := hid (HR.out.sub (List.sublist_append_right _ _))
  clear SW
  go_wp2_with fail
  refine (C3.out _ _ (SL.out.at_ (HR.out.right) FL.out)).mono ?_
  rintro e w5 ⟨rfl, hb⟩
  replace HR := hid (HR.out.below hb)
  replace HB := hid (HB.out.trans (hb.mono HB.out.size))
  clear hb
  cases q
  · go_wp2_with fail
    refine (C2.out _ _ (SL.out.at_ (HR.out.right) FL.out)).mono ?_
    rintro e w6 ⟨u, rsV, rfl, hs0, hr, hb⟩
    obtain ⟨fV0, fV1, fV2, rfl⟩ := hs0.form hr
    have SV := hid hs0
    clear hs0
    replace HR := hid (HR.out.newer hb hr HB.out.size)
    replace HB := hid (HB.out.trans (hb.mono HB.out.size))
    clear hb hr
    have FV := hid FD.out
    go_wp2_with fail
    refine (equalRecsX_c SO.out (HR.out.right.left) SV.out (HR.out.left)).mono ?_
    rintro e w7 ⟨rfl, hb⟩
    replace HR := hid (HR.out.below hb)
    replace HB := hid (HB.out.trans (hb.mono HB.out.size))
    clear hb
    go_wp2_with fail
    go_ret
    exact ⟨rfl, HB.out⟩
  · replace K1 := hid (K1.out rfl)
    replace HH := hid (HH.out rfl)
    have hcO := RecsR.count SO.out (HR.out.left)
    have hcL := RecsR.count SL.out (HR.out.right)
    have hY20 := FD.out.1
    unfold maxTxt at hY20
    generalize hyn : Y.length = yn at *
    replace hyn := hid hyn
    subst hcO
    generalize hlln : l.length = ln at *
    replace hlln := hid hlln
    subst hcL
    go_wp2_with fail
    go_loopw [5, 6] (fun iv av wr => ∃ (k : Nat), iv = .int .i64 k ∧ 1 ≤ k ∧ k ≤ fO1 + 1 ∧ Hid (Rows wr w.heap.size (rsO ++ rsL)) ∧ Hid (Below w.heap.size w wr)) (fun iv _ _ => fO1 + 1 - (intOf iv).toNat)
    case atStart => exact ⟨1, rfl, by omega, by omega, HR.out, HB.out⟩
    case round =>
      obtain ⟨k, rfl, hk1, hk2, HR, HB⟩ := hrel
      by_cases hlt : k < fO1
      · have SY := hid (by have h9 := (RecsR.at_ SO.out (HR.out.left) FD.out).1; rw [hyn.out] at h9; exact h9 : Rs wr wr.heap.size fO1 (.slice fO0 fO1 fO2) Y)
        obtain ⟨b, o, nm, lv, tx, sq, rfl, hbB, hx, c0, c1, c2, c3⟩ := rcells_at SY.out.1 (show k - 1 < fO1 by omega)
        obtain ⟨b', o', nm', lv', tx', sq', he, hbB', hx', e0, e1, e2, e3⟩ := rcells_at SY.out.1 (show k < fO1 by omega)
        obtain ⟨rfl, rfl⟩ : b = b' ∧ o = o' := by simpa using he
        clear he
        have q1 : IntKind.i64.wrap ((k : Int) - 1) = ((k - 1 : Nat) : Int) := by rw [IntKind.wrap_i64] <;> omega
        have hal : alike (⟨nm.data.toList, lv, tx.data.toList, sq⟩ : Rec) (⟨nm'.data.toList, lv', tx'.data.toList, sq'⟩ : Rec) = false := HA.out (k - 1) _ _ hx (by rw [show k - 1 + 1 = k by omega]; exact hx')
        have HX := hid (And.intro hx (And.intro hx' hal))
        clear hx hx' hal
        go_wp2_with fail
        have HB0 := hid ((Below.refl wr.heap.size wr).alloc (Nat.le_refl _) (.cells #[.string nm, .int .i64 lv, .string tx, .int .i64 sq'] 33))
        have KX := hid (Blk.new wr #[.string nm, .int .i64 lv, .string tx, .int .i64 sq'] 33)
        have f0 := (KX.out.2 0 _ rfl).1
        have f1 := (KX.out.2 1 _ rfl).1
        have f2 := (KX.out.2 2 _ rfl).1
        have f3 := (KX.out.2 3 _ rfl).1
        have e0' := (HB0.out.cell (p := ⟨b, o + k * 4, none⟩) hbB).trans e0
        have e1' := (HB0.out.cell (p := ⟨b, o + k * 4 + 1, none⟩) hbB).trans e1
        have e2' := (HB0.out.cell (p := ⟨b, o + k * 4 + 2, none⟩) hbB).trans e2
        have e3' := (HB0.out.cell (p := ⟨b, o + k * 4 + 3, none⟩) hbB).trans e3
        have HRx := hid (HR.out.below HB0.out)
        have HBx := hid (HB.out.trans (HB0.out.mono HB.out.size))
        generalize wr.alloc (.cells #[.string nm, .int .i64 lv, .string tx, .int .i64 sq'] 33) = wx at *
        clear c0 c1 c2 c3 e0 e1 e2 e3 KX HB0
        obtain ⟨a1, x1, y1⟩ := eq_bool nm nm'
        obtain ⟨a2, x2, y2⟩ := eq_bool_i lv lv'
        obtain ⟨a3, x3, y3⟩ := eq_bool tx tx'
        have x4 : (sq' == sq') = true := by simp
        have hz : (a1 && (a2 && a3)) = false := by rw [← y1, ← y2, ← y3]; have h9 := HX.out.2.2; rw [alike_comm] at h9; exact h9
        clear y1 y2 y3
        cases a1 <;> cases a2 <;> cases a3 <;> first | (exfalso; revert hz; decide) | skip
        all_goals clear hz
        all_goals go_quiet (fail)
        all_goals go_wp2_with fail
        all_goals exact ⟨⟨k + 1, by go_num, by omega, by omega, HRx.out.below (below_dr (Below.refl _ _) _), below_dr HBx.out _⟩, by simp [intOf]; omega⟩
      · have HX := hid (show Rows wr.drew w.heap.size (rsO ++ rsL) from HR.out.below (Below.refl _ _).drew)
        have HC := hid (K1.out _ _ (RecsR.at_ SO.out HX.out.left FD.out))
        have HBd := hid HB.out.drew
        rcases Nat.eq_zero_or_pos fL1 with hz | hz
        · have hz2 : fO1 = 0 := by rw [← hyn.out, HH.out.1 (List.eq_nil_of_length_eq_zero (by rw [hlln.out]; exact hz))]; rfl
          subst hz
          subst hz2
          go_wp2_with fail
          refine wp_region_held_drew (S := fun w' : World => True) (by kernel_rfl) trivial (fun hS => ?_)
          refine wpAnyH_take (i := 0) (oi := ?oi101) (v := ?v101) ?hi101 (by kernel_rfl) ?hf101 ?hr101 ?hQ101 (Or.inl ⟨?hw101, ?hy101⟩) (by assumption) ?rest101
          case hi101 => simp only [List.getElem?_toArray, List.getElem?_cons_succ, List.getElem?_cons_zero]; rfl
          case hf101 => kernel_rfl
          case hr101 => kernel_rfl
          case hw101 => rfl
          case hy101 => (intro w hSw; (try dsimp only at hSw); go_simp; all_goals (first | done | with_reducible rfl))
          case hQ101 => exact fun _ _ _ h => h
          simp only [Act.put, List.setIfInBounds_toArray, List.set_cons_zero, List.set_cons_succ]
          refine wpAnyH_take (i := 2) (oi := ?oi102) (v := ?v102) ?hi102 (by kernel_rfl) ?hf102 ?hr102 ?hQ102 (Or.inl ⟨?hw102, ?hy102⟩) (by assumption) ?rest102
          case hi102 => simp only [List.getElem?_toArray, List.getElem?_cons_succ, List.getElem?_cons_zero]; rfl
          case hf102 => kernel_rfl
          case hr102 => kernel_rfl
          case hw102 => rfl
          case hy102 => (intro w hSw; (try dsimp only at hSw); go_simp; all_goals (first | done | with_reducible rfl))
          case hQ102 => exact fun _ _ _ h => h
          simp only [Act.put, List.setIfInBounds_toArray, List.set_cons_zero, List.set_cons_succ]
          refine wpAnyH_ready (rs := [1]) (by kernel_rfl) (by simp) ?_
          refine AllReadyH.cons (o := ?oi103) ?hi103 (fun K hK => ?step103) AllReadyH.nil
          case hi103 => simp only [List.getElem?_toArray, List.getElem?_cons_succ, List.getElem?_cons_zero]; rfl
          rw [if_pos (by rfl)]
          go_simp
          go_at_call 17
          refine HC.out.mono ?_
          rintro e wA ⟨u, rsA, rfl, hs0, hr, hb⟩
          obtain ⟨fA0, fA1, fA2, rfl⟩ := RecsR.form hs0 hr
          have SA := hid hs0
          have HRA := hid (HX.out.newer hb hr HBd.out.size)
          replace HBd := hid (HBd.out.trans (hb.mono HBd.out.size))
          clear hb hr hs0
          refine hK.out _ _ trivial (fun _ => ?_)
          refine wpAnyH_ready (rs := [3]) (by kernel_rfl) (by simp) ?_
          refine AllReadyH.cons (o := ?oi104) ?hi104 (fun K hK => ?step104) AllReadyH.nil
          case hi104 => simp only [List.getElem?_toArray, List.getElem?_cons_succ, List.getElem?_cons_zero]; rfl
          rw [if_pos (by rfl)]
          go_simp
          go_at_call 13
          refine (equalRecsX_c SA.out HRA.out.left SO.out HRA.out.right.left).mono ?_
          rintro e wB ⟨rfl, hb⟩
          replace HBd := hid (HBd.out.trans (hb.mono HBd.out.size))
          clear hb
          refine hK.out _ _ trivial (fun _ => ?_)
          refine wpAnyH_take (i := 4) (oi := ?oi105) (v := ?v105) ?hi105 (by kernel_rfl) ?hf105 ?hr105 ?hQ105 (Or.inl ⟨?hw105, ?hy105⟩) (by assumption) ?rest105
          case hi105 => simp only [List.getElem?_toArray, List.getElem?_cons_succ, List.getElem?_cons_zero]; rfl
          case hf105 => kernel_rfl
          case hr105 => kernel_rfl
          case hw105 => rfl
          case hy105 => (intro w hSw; (try dsimp only at hSw); go_simp; all_goals (first | done | with_reducible rfl))
          case hQ105 => exact fun _ _ _ h => h
          simp only [Act.put, List.setIfInBounds_toArray, List.set_cons_zero, List.set_cons_succ]
          refine wpAnyH_take (i := 5) (oi := ?oi106) (v := ?v106) ?hi106 (by kernel_rfl) ?hf106 ?hr106 ?hQ106 (Or.inl ⟨?hw106, ?hy106⟩) (by assumption) ?rest106
          case hi106 => simp only [List.getElem?_toArray, List.getElem?_cons_succ, List.getElem?_cons_zero]; rfl
          case hf106 => kernel_rfl
          case hr106 => kernel_rfl
          case hw106 => rfl
          case hy106 => (intro w hSw; (try dsimp only at hSw); go_simp; all_goals (first | done | with_reducible rfl))
          case hQ106 => exact fun _ _ _ h => h
          simp only [Act.put, List.setIfInBounds_toArray, List.set_cons_zero, List.set_cons_succ]
          refine wpAnyH_take (i := 6) (oi := ?oi107) (v := ?v107) ?hi107 (by kernel_rfl) ?hf107 ?hr107 ?hQ107 (Or.inl ⟨?hw107, ?hy107⟩) (by assumption) ?rest107
          case hi107 => simp only [List.getElem?_toArray, List.getElem?_cons_succ, List.getElem?_cons_zero]; rfl
          case hf107 => kernel_rfl
          case hr107 => kernel_rfl
          case hw107 => rfl
          case hy107 => (intro w hSw; (try dsimp only at hSw); go_simp; all_goals (first | done | with_reducible rfl))
          case hQ107 => exact fun _ _ _ h => h
          simp only [Act.put, List.setIfInBounds_toArray, List.set_cons_zero, List.set_cons_succ]
          refine wpAnyH_take (i := 7) (oi := ?oi108) (v := ?v108) ?hi108 (by kernel_rfl) ?hf108 ?hr108 ?hQ108 (Or.inl ⟨?hw108, ?hy108⟩) (by assumption) ?rest108
          case hi108 => simp only [List.getElem?_toArray, List.getElem?_cons_succ, List.getElem?_cons_zero]; rfl
          case hf108 => kernel_rfl
          case hr108 => kernel_rfl
          case hw108 => rfl
          case hy108 => (intro w hSw; (try dsimp only at hSw); go_simp; all_goals (first | done | with_reducible rfl))
          case hQ108 => exact fun _ _ _ h => h
          simp only [Act.put, List.setIfInBounds_toArray, List.set_cons_zero, List.set_cons_succ]
          refine wpAnyH_take (i := 8) (oi := ?oi109) (v := ?v109) ?hi109 (by kernel_rfl) ?hf109 ?hr109 ?hQ109 (Or.inl ⟨?hw109, ?hy109⟩) (by assumption) ?rest109
          case hi109 => simp only [List.getElem?_toArray, List.getElem?_cons_succ, List.getElem?_cons_zero]; rfl
          case hf109 => kernel_rfl
          case hr109 => kernel_rfl
          case hw109 => rfl
          case hy109 => (intro w hSw; (try dsimp only at hSw); go_simp; all_goals (first | done | with_reducible rfl))
          case hQ109 => exact fun _ _ _ h => h
          simp only [Act.put, List.setIfInBounds_toArray, List.set_cons_zero, List.set_cons_succ]
          refine wpAnyH_take (i := 9) (oi := ?oi110) (v := ?v110) ?hi110 (by kernel_rfl) ?hf110 ?hr110 ?hQ110 (Or.inl ⟨?hw110, ?hy110⟩) (by assumption) ?rest110
          case hi110 => simp only [List.getElem?_toArray, List.getElem?_cons_succ, List.getElem?_cons_zero]; rfl
          case hf110 => kernel_rfl
          case hr110 => kernel_rfl
          case hw110 => rfl
          case hy110 => (intro w hSw; (try dsimp only at hSw); go_simp; all_goals (first | done | with_reducible rfl))
          case hQ110 => exact fun _ _ _ h => h
          simp only [Act.put, List.setIfInBounds_toArray, List.set_cons_zero, List.set_cons_succ]
          refine wpAnyH_take (i := 10) (oi := ?oi111) (v := ?v111) ?hi111 (by kernel_rfl) ?hf111 ?hr111 ?hQ111 (Or.inl ⟨?hw111, ?hy111⟩) (by assumption) ?rest111
          case hi111 => simp only [List.getElem?_toArray, List.getElem?_cons_succ, List.getElem?_cons_zero]; rfl
          case hf111 => kernel_rfl
          case hr111 => kernel_rfl
          case hw111 => rfl
          case hy111 => (intro w hSw; (try dsimp only at hSw); go_simp; all_goals (first | done | with_reducible rfl))
          case hQ111 => exact fun _ _ _ h => h
          simp only [Act.put, List.setIfInBounds_toArray, List.set_cons_zero, List.set_cons_succ]
          refine wpAnyH_take (i := 11) (oi := ?oi112) (v := ?v112) ?hi112 (by kernel_rfl) ?hf112 ?hr112 ?hQ112 (Or.inl ⟨?hw112, ?hy112⟩) (by assumption) ?rest112
          case hi112 => simp only [List.getElem?_toArray, List.getElem?_cons_succ, List.getElem?_cons_zero]; rfl
          case hf112 => kernel_rfl
          case hr112 => kernel_rfl
          case hw112 => rfl
          case hy112 => (intro w hSw; (try dsimp only at hSw); go_simp; all_goals (first | done | with_reducible rfl))
          case hQ112 => exact fun _ _ _ h => h
          simp only [Act.put, List.setIfInBounds_toArray, List.set_cons_zero, List.set_cons_succ]
          refine wpAnyH_take (i := 12) (oi := ?oi113) (v := ?v113) ?hi113 (by kernel_rfl) ?hf113 ?hr113 ?hQ113 (Or.inl ⟨?hw113, ?hy113⟩) (by assumption) ?rest113
          case hi113 => simp only [List.getElem?_toArray, List.getElem?_cons_succ, List.getElem?_cons_zero]; rfl
          case hf113 => kernel_rfl
          case hr113 => kernel_rfl
          case hw113 => rfl
          case hy113 => (intro w hSw; (try dsimp only at hSw); go_simp; all_goals (first | done | with_reducible rfl))
          case hQ113 => exact fun _ _ _ h => h
          simp only [Act.put, List.setIfInBounds_toArray, List.set_cons_zero, List.set_cons_succ]
          refine wpAnyH_take (i := 13) (oi := ?oi114) (v := ?v114) ?hi114 (by kernel_rfl) ?hf114 ?hr114 ?hQ114 (Or.inl ⟨?hw114, ?hy114⟩) (by assumption) ?rest114
          case hi114 => simp only [List.getElem?_toArray, List.getElem?_cons_succ, List.getElem?_cons_zero]; rfl
          case hf114 => kernel_rfl
          case hr114 => kernel_rfl
          case hw114 => rfl
          case hy114 => (intro w hSw; (try dsimp only at hSw); go_simp; all_goals (first | done | with_reducible rfl))
          case hQ114 => exact fun _ _ _ h => h
          simp only [Act.put, List.setIfInBounds_toArray, List.set_cons_zero, List.set_cons_succ]
          refine wpAnyH_take (i := 14) (oi := ?oi115) (v := ?v115) ?hi115 (by kernel_rfl) ?hf115 ?hr115 ?hQ115 (Or.inl ⟨?hw115, ?hy115⟩) (by assumption) ?rest115
          case hi115 => simp only [List.getElem?_toArray, List.getElem?_cons_succ, List.getElem?_cons_zero]; rfl
          case hf115 => kernel_rfl
          case hr115 => kernel_rfl
          case hw115 => rfl
          case hy115 => (intro w hSw; (try dsimp only at hSw); go_simp; all_goals (first | done | with_reducible rfl))
          case hQ115 => exact fun _ _ _ h => h
          simp only [Act.put, List.setIfInBounds_toArray, List.set_cons_zero, List.set_cons_succ]
          refine wpAnyH_take (i := 15) (oi := ?oi116) (v := ?v116) ?hi116 (by kernel_rfl) ?hf116 ?hr116 ?hQ116 (Or.inl ⟨?hw116, ?hy116⟩) (by assumption) ?rest116
          case hi116 => simp only [List.getElem?_toArray, List.getElem?_cons_succ, List.getElem?_cons_zero]; rfl
          case hf116 => kernel_rfl
          case hr116 => kernel_rfl
          case hw116 => rfl
          case hy116 => (intro w hSw; (try dsimp only at hSw); go_simp; all_goals (first | done | with_reducible rfl))
          case hQ116 => exact fun _ _ _ h => h
          simp only [Act.put, List.setIfInBounds_toArray, List.set_cons_zero, List.set_cons_succ]
          refine wpAnyH_take (i := 16) (oi := ?oi117) (v := ?v117) ?hi117 (by kernel_rfl) ?hf117 ?hr117 ?hQ117 (Or.inl ⟨?hw117, ?hy117⟩) (by assumption) ?rest117
          case hi117 => simp only [List.getElem?_toArray, List.getElem?_cons_succ, List.getElem?_cons_zero]; rfl
          case hf117 => kernel_rfl
          case hr117 => kernel_rfl
          case hw117 => rfl
          case hy117 => (intro w hSw; (try dsimp only at hSw); go_simp; all_goals (first | done | with_reducible rfl))
          case hQ117 => exact fun _ _ _ h => h
          simp only [Act.put, List.setIfInBounds_toArray, List.set_cons_zero, List.set_cons_succ]
          refine wpAnyH_take (i := 17) (oi := ?oi118) (v := ?v118) ?hi118 (by kernel_rfl) ?hf118 ?hr118 ?hQ118 (Or.inl ⟨?hw118, ?hy118⟩) (by assumption) ?rest118
          case hi118 => simp only [List.getElem?_toArray, List.getElem?_cons_succ, List.getElem?_cons_zero]; rfl
          case hf118 => kernel_rfl
          case hr118 => kernel_rfl
          case hw118 => rfl
          case hy118 => (intro w hSw; (try dsimp only at hSw); go_simp; all_goals (first | done | with_reducible rfl))
          case hQ118 => exact fun _ _ _ h => h
          simp only [Act.put, List.setIfInBounds_toArray, List.set_cons_zero, List.set_cons_succ]
          refine wpAnyH_take (i := 18) (oi := ?oi119) (v := undef) ?hi119 (by kernel_rfl) ?hf119 ?hr119 ?hQ119 (Or.inr ⟨?hw119, rfl⟩) (by assumption) ?rest119
          case hi119 => simp only [List.getElem?_toArray, List.getElem?_cons_succ, List.getElem?_cons_zero]; rfl
          case hf119 => kernel_rfl
          case hr119 => kernel_rfl
          case hw119 => rfl
          case hQ119 => exact fun _ _ _ h => h
          simp only [Act.put, List.setIfInBounds_toArray, List.set_cons_zero, List.set_cons_succ]
          refine wpAnyH_take (i := 19) (oi := ?oi120) (v := undef) ?hi120 (by kernel_rfl) ?hf120 ?hr120 ?hQ120 (Or.inr ⟨?hw120, rfl⟩) (by assumption) ?rest120
          case hi120 => simp only [List.getElem?_toArray, List.getElem?_cons_succ, List.getElem?_cons_zero]; rfl
          case hf120 => kernel_rfl
          case hr120 => kernel_rfl
          case hw120 => rfl
          case hQ120 => exact fun _ _ _ h => h
          simp only [Act.put, List.setIfInBounds_toArray, List.set_cons_zero, List.set_cons_succ]
          refine wpAnyH_take (i := 20) (oi := ?oi121) (v := undef) ?hi121 (by kernel_rfl) ?hf121 ?hr121 ?hQ121 (Or.inr ⟨?hw121, rfl⟩) (by assumption) ?rest121
          case hi121 => simp only [List.getElem?_toArray, List.getElem?_cons_succ, List.getElem?_cons_zero]; rfl
          case hf121 => kernel_rfl
          case hr121 => kernel_rfl
          case hw121 => rfl
          case hQ121 => exact fun _ _ _ h => h
          simp only [Act.put, List.setIfInBounds_toArray, List.set_cons_zero, List.set_cons_succ]
          refine wpAnyH_take (i := 21) (oi := ?oi122) (v := undef) ?hi122 (by kernel_rfl) ?hf122 ?hr122 ?hQ122 (Or.inr ⟨?hw122, rfl⟩) (by assumption) ?rest122
          case hi122 => simp only [List.getElem?_toArray, List.getElem?_cons_succ, List.getElem?_cons_zero]; rfl
          case hf122 => kernel_rfl
          case hr122 => kernel_rfl
          case hw122 => rfl
          case hQ122 => exact fun _ _ _ h => h
          simp only [Act.put, List.setIfInBounds_toArray, List.set_cons_zero, List.set_cons_succ]
          refine wpAnyH_take (i := 22) (oi := ?oi123) (v := undef) ?hi123 (by kernel_rfl) ?hf123 ?hr123 ?hQ123 (Or.inr ⟨?hw123, rfl⟩) (by assumption) ?rest123
          case hi123 => simp only [List.getElem?_toArray, List.getElem?_cons_succ, List.getElem?_cons_zero]; rfl
          case hf123 => kernel_rfl
          case hr123 => kernel_rfl
          case hw123 => rfl
          case hQ123 => exact fun _ _ _ h => h
          simp only [Act.put, List.setIfInBounds_toArray, List.set_cons_zero, List.set_cons_succ]
          refine wpAnyH_take (i := 23) (oi := ?oi124) (v := undef) ?hi124 (by kernel_rfl) ?hf124 ?hr124 ?hQ124 (Or.inr ⟨?hw124, rfl⟩) (by assumption) ?rest124
          case hi124 => simp only [List.getElem?_toArray, List.getElem?_cons_succ, List.getElem?_cons_zero]; rfl
          case hf124 => kernel_rfl
          case hr124 => kernel_rfl
          case hw124 => rfl
          case hQ124 => exact fun _ _ _ h => h
          simp only [Act.put, List.setIfInBounds_toArray, List.set_cons_zero, List.set_cons_succ]
          refine wpAnyH_take (i := 24) (oi := ?oi125) (v := undef) ?hi125 (by kernel_rfl) ?hf125 ?hr125 ?hQ125 (Or.inr ⟨?hw125, rfl⟩) (by assumption) ?rest125
          case hi125 => simp only [List.getElem?_toArray, List.getElem?_cons_succ, List.getElem?_cons_zero]; rfl
          case hf125 => kernel_rfl
          case hr125 => kernel_rfl
          case hw125 => rfl
          case hQ125 => exact fun _ _ _ h => h
          simp only [Act.put, List.setIfInBounds_toArray, List.set_cons_zero, List.set_cons_succ]
          refine wpAnyH_take (i := 25) (oi := ?oi126) (v := ?v126) ?hi126 (by kernel_rfl) ?hf126 ?hr126 ?hQ126 (Or.inl ⟨?hw126, ?hy126⟩) (by assumption) ?rest126
          case hi126 => simp only [List.getElem?_toArray, List.getElem?_cons_succ, List.getElem?_cons_zero]; rfl
          case hf126 => kernel_rfl
          case hr126 => kernel_rfl
          case hw126 => rfl
          case hy126 => (intro w hSw; (try dsimp only at hSw); go_simp; all_goals (first | done | with_reducible rfl))
          case hQ126 => exact fun _ _ _ h => h
          simp only [Act.put, List.setIfInBounds_toArray, List.set_cons_zero, List.set_cons_succ]
          refine wpAnyH_take (i := 26) (oi := ?oi127) (v := ?v127) ?hi127 (by kernel_rfl) ?hf127 ?hr127 ?hQ127 (Or.inl ⟨?hw127, ?hy127⟩) (by assumption) ?rest127
          case hi127 => simp only [List.getElem?_toArray, List.getElem?_cons_succ, List.getElem?_cons_zero]; rfl
          case hf127 => kernel_rfl
          case hr127 => kernel_rfl
          case hw127 => rfl
          case hy127 => (intro w hSw; (try dsimp only at hSw); go_simp; all_goals (first | done | with_reducible rfl))
          case hQ127 => exact fun _ _ _ h => h
          simp only [Act.put, List.setIfInBounds_toArray, List.set_cons_zero, List.set_cons_succ]
          refine wpAnyH_take (i := 27) (oi := ?oi128) (v := ?v128) ?hi128 (by kernel_rfl) ?hf128 ?hr128 ?hQ128 (Or.inl ⟨?hw128, ?hy128⟩) (by assumption) ?rest128
          case hi128 => simp only [List.getElem?_toArray, List.getElem?_cons_succ, List.getElem?_cons_zero]; rfl
          case hf128 => kernel_rfl
          case hr128 => kernel_rfl
          case hw128 => rfl
          case hy128 => (intro w hSw; (try dsimp only at hSw); go_simp; all_goals (first | done | with_reducible rfl))
          case hQ128 => exact fun _ _ _ h => h
          simp only [Act.put, List.setIfInBounds_toArray, List.set_cons_zero, List.set_cons_succ]
          refine wpAnyH_done (by kernel_rfl) ?_ _
          go_wp2_with fail
          go_ret
          exact ⟨rfl, HBd.out⟩
        · have hyp : 0 < fO1 := by
            obtain ⟨x, hx⟩ : ∃ x, l[0]? = some x := ⟨l[0]'(by rw [hlln.out]; exact hz), List.getElem?_eq_getElem _⟩
            have := (List.getElem?_eq_some_iff.1 (HH.out.2 x hx)).1
            rw [hyn.out] at this; exact this
          have SY := hid (by have h9 := (RecsR.at_ SO.out (HR.out.left) FD.out).1; rw [hyn.out] at h9; exact h9 : Rs wr wr.heap.size fO1 (.slice fO0 fO1 fO2) Y)
          have SLL := hid (by have h9 := (RecsR.at_ SL.out (HR.out.right) FL.out).1; rw [hlln.out] at h9; exact h9 : Rs wr wr.heap.size fL1 (.slice fL0 fL1 fL2) l)
          obtain ⟨b, o, nm, lv, tx, sq, rfl, hbB, hx, c0, c1, c2, c3⟩ := rcells_at SLL.out.1 hz
          obtain ⟨b', o', nm', lv', tx', sq', rfl, hbB', hx', e0, e1, e2, e3⟩ := rcells_at SY.out.1 hyp
          have hxx := HH.out.2 _ hx
          rw [hx'] at hxx
          have hx'' := Option.some.inj hxx
          simp only [Rec.mk.injEq, bytes_eq_iff] at hx''
          obtain ⟨rfl, rfl, rfl, rfl⟩ := hx''
          simp only [Nat.zero_mul, Nat.add_zero] at c0 c1 c2 c3 e0 e1 e2 e3
          clear hx hx' hxx
          have z1 : ((fO1 : Int) == 0) = false := by simp; omega
          have z2 : ((fL1 : Int) == 0) = false := by simp; omega
          have z3 : (0 : Int) < (fO1 : Int) := by omega
          have z4 : (0 : Int) < (fL1 : Int) := by omega
          have HCell := hid (And.intro (And.intro c0 (And.intro c1 (And.intro c2 c3))) (And.intro e0 (And.intro e1 (And.intro e2 e3))))
          have HBb := hid (And.intro hbB hbB')
          go_wp2_with fail
          refine wp_region_held_drew (S := fun w' : World => (w'.cell? ⟨b, o, none⟩ = some (.string nm') ∧ w'.cell? ⟨b, o + 1, none⟩ = some (.int .i64 lv') ∧ w'.cell? ⟨b, o + 2, none⟩ = some (.string tx') ∧ w'.cell? ⟨b, o + 3, none⟩ = some (.int .i64 sq')) ∧ w'.cell? ⟨b', o', none⟩ = some (.string nm') ∧ w'.cell? ⟨b', o' + 1, none⟩ = some (.int .i64 lv') ∧ w'.cell? ⟨b', o' + 2, none⟩ = some (.string tx') ∧ w'.cell? ⟨b', o' + 3, none⟩ = some (.int .i64 sq')) (by kernel_rfl) HCell.out (fun hS => ?_)
          refine wpAnyH_take (i := 0) (oi := ?oi129) (v := ?v129) ?hi129 (by kernel_rfl) ?hf129 ?hr129 ?hQ129 (Or.inl ⟨?hw129, ?hy129⟩) (by assumption) ?rest129
          case hi129 => simp only [List.getElem?_toArray, List.getElem?_cons_succ, List.getElem?_cons_zero]; rfl
          case hf129 => kernel_rfl
          case hr129 => kernel_rfl
          case hw129 => rfl
          case hy129 => (intro w hSw; (try dsimp only at hSw); go_simp; all_goals (first | done | with_reducible rfl))
          case hQ129 => exact fun _ _ _ h => h
          simp only [Act.put, List.setIfInBounds_toArray, List.set_cons_zero, List.set_cons_succ]
          refine wpAnyH_take (i := 2) (oi := ?oi130) (v := ?v130) ?hi130 (by kernel_rfl) ?hf130 ?hr130 ?hQ130 (Or.inl ⟨?hw130, ?hy130⟩) (by assumption) ?rest130
          case hi130 => simp only [List.getElem?_toArray, List.getElem?_cons_succ, List.getElem?_cons_zero]; rfl
          case hf130 => kernel_rfl
          case hr130 => kernel_rfl
          case hw130 => rfl
          case hy130 => (intro w hSw; (try dsimp only at hSw); go_simp; all_goals (first | done | with_reducible rfl))
          case hQ130 => exact fun _ _ _ h => h
          simp only [Act.put, List.setIfInBounds_toArray, List.set_cons_zero, List.set_cons_succ]
          refine wpAnyH_ready (rs := [1]) (by kernel_rfl) (by simp) ?_
          refine AllReadyH.cons (o := ?oi131) ?hi131 (fun K hK => ?step131) AllReadyH.nil
          case hi131 => simp only [List.getElem?_toArray, List.getElem?_cons_succ, List.getElem?_cons_zero]; rfl
          rw [if_pos (by rfl)]
          go_simp
          go_at_call 17
          refine HC.out.mono ?_
          rintro e wA ⟨u, rsA, rfl, hs0, hr, hb⟩
          obtain ⟨fA0, fA1, fA2, rfl⟩ := RecsR.form hs0 hr
          have SA := hid hs0
          have HRA := hid (HX.out.newer hb hr HBd.out.size)
          replace HBd := hid (HBd.out.trans (hb.mono HBd.out.size))
          have HBw := hid (show Below wr.heap.size wr wA from (Below.refl _ _).drew.trans hb)
          clear hb hr hs0
          have up := hid (fun (W : World) (hb : Below wr.heap.size wr W) => And.intro (And.intro ((hb.cell (p := ⟨b, o, none⟩) HBb.out.1).trans HCell.out.1.1) (And.intro ((hb.cell (p := ⟨b, o + 1, none⟩) HBb.out.1).trans HCell.out.1.2.1) (And.intro ((hb.cell (p := ⟨b, o + 2, none⟩) HBb.out.1).trans HCell.out.1.2.2.1) ((hb.cell (p := ⟨b, o + 3, none⟩) HBb.out.1).trans HCell.out.1.2.2.2)))) (And.intro ((hb.cell (p := ⟨b', o', none⟩) HBb.out.2).trans HCell.out.2.1) (And.intro ((hb.cell (p := ⟨b', o' + 1, none⟩) HBb.out.2).trans HCell.out.2.2.1) (And.intro ((hb.cell (p := ⟨b', o' + 2, none⟩) HBb.out.2).trans HCell.out.2.2.2.1) ((hb.cell (p := ⟨b', o' + 3, none⟩) HBb.out.2).trans HCell.out.2.2.2.2)))))
          refine hK.out _ _ (up.out _ HBw.out) (fun _ => ?_)
          refine wpAnyH_ready (rs := [3]) (by kernel_rfl) (by simp) ?_
          refine AllReadyH.cons (o := ?oi132) ?hi132 (fun K hK => ?step132) AllReadyH.nil
          case hi132 => simp only [List.getElem?_toArray, List.getElem?_cons_succ, List.getElem?_cons_zero]; rfl
          rw [if_pos (by rfl)]
          go_simp
          go_at_call 13
          refine (equalRecsX_c SA.out HRA.out.left SO.out HRA.out.right.left).mono ?_
          rintro e wB ⟨rfl, hb⟩
          replace HBd := hid (HBd.out.trans (hb.mono HBd.out.size))
          replace HBw := hid (HBw.out.trans (hb.mono HBw.out.size))
          clear hb
          refine hK.out _ _ (up.out _ HBw.out) (fun _ => ?_)
          refine wpAnyH_take (i := 4) (oi := ?oi133) (v := ?v133) ?hi133 (by kernel_rfl) ?hf133 ?hr133 ?hQ133 (Or.inl ⟨?hw133, ?hy133⟩) (by assumption) ?rest133
          case hi133 => simp only [List.getElem?_toArray, List.getElem?_cons_succ, List.getElem?_cons_zero]; rfl
          case hf133 => kernel_rfl
          case hr133 => kernel_rfl
          case hw133 => rfl
          case hy133 => (intro w hSw; (try dsimp only at hSw); go_simp; all_goals (first | done | with_reducible rfl))
          case hQ133 => exact fun _ _ _ h => h
          simp only [Act.put, List.setIfInBounds_toArray, List.set_cons_zero, List.set_cons_succ]
          refine wpAnyH_take (i := 5) (oi := ?oi134) (v := ?v134) ?hi134 (by kernel_rfl) ?hf134 ?hr134 ?hQ134 (Or.inl ⟨?hw134, ?hy134⟩) (by assumption) ?rest134
          case hi134 => simp only [List.getElem?_toArray, List.getElem?_cons_succ, List.getElem?_cons_zero]; rfl
          case hf134 => kernel_rfl
          case hr134 => kernel_rfl
          case hw134 => rfl
          case hy134 => (intro w hSw; (try dsimp only at hSw); go_simp; all_goals (first | done | with_reducible rfl))
          case hQ134 => exact fun _ _ _ h => h
          simp only [Act.put, List.setIfInBounds_toArray, List.set_cons_zero, List.set_cons_succ]
          refine wpAnyH_take (i := 6) (oi := ?oi135) (v := ?v135) ?hi135 (by kernel_rfl) ?hf135 ?hr135 ?hQ135 (Or.inl ⟨?hw135, ?hy135⟩) (by assumption) ?rest135
          case hi135 => simp only [List.getElem?_toArray, List.getElem?_cons_succ, List.getElem?_cons_zero]; rfl
          case hf135 => kernel_rfl
          case hr135 => kernel_rfl
          case hw135 => rfl
          case hy135 => (intro w hSw; (try dsimp only at hSw); go_simp; all_goals (first | done | with_reducible rfl))
          case hQ135 => exact fun _ _ _ h => h
          simp only [Act.put, List.setIfInBounds_toArray, List.set_cons_zero, List.set_cons_succ]
          refine wpAnyH_take (i := 7) (oi := ?oi136) (v := ?v136) ?hi136 (by kernel_rfl) ?hf136 ?hr136 ?hQ136 (Or.inl ⟨?hw136, ?hy136⟩) (by assumption) ?rest136
          case hi136 => simp only [List.getElem?_toArray, List.getElem?_cons_succ, List.getElem?_cons_zero]; rfl
          case hf136 => kernel_rfl
          case hr136 => kernel_rfl
          case hw136 => rfl
          case hy136 => (intro w hSw; (try dsimp only at hSw); go_simp; all_goals (first | done | with_reducible rfl))
          case hQ136 => exact fun _ _ _ h => h
          simp only [Act.put, List.setIfInBounds_toArray, List.set_cons_zero, List.set_cons_succ]
          refine wpAnyH_take (i := 8) (oi := ?oi137) (v := ?v137) ?hi137 (by kernel_rfl) ?hf137 ?hr137 ?hQ137 (Or.inl ⟨?hw137, ?hy137⟩) (by assumption) ?rest137
          case hi137 => simp only [List.getElem?_toArray, List.getElem?_cons_succ, List.getElem?_cons_zero]; rfl
          case hf137 => kernel_rfl
          case hr137 => kernel_rfl
          case hw137 => rfl
          case hy137 => (intro w hSw; (try dsimp only at hSw); go_simp; all_goals (first | done | with_reducible rfl))
          case hQ137 => exact fun _ _ _ h => h
          simp only [Act.put, List.setIfInBounds_toArray, List.set_cons_zero, List.set_cons_succ]
          refine wpAnyH_take (i := 9) (oi := ?oi138) (v := ?v138) ?hi138 (by kernel_rfl) ?hf138 ?hr138 ?hQ138 (Or.inl ⟨?hw138, ?hy138⟩) (by assumption) ?rest138
          case hi138 => simp only [List.getElem?_toArray, List.getElem?_cons_succ, List.getElem?_cons_zero]; rfl
          case hf138 => kernel_rfl
          case hr138 => kernel_rfl
          case hw138 => rfl
          case hy138 => (intro w hSw; (try dsimp only at hSw); go_simp; all_goals (first | done | with_reducible rfl))
          case hQ138 => exact fun _ _ _ h => h
          simp only [Act.put, List.setIfInBounds_toArray, List.set_cons_zero, List.set_cons_succ]
          refine wpAnyH_take (i := 10) (oi := ?oi139) (v := ?v139) ?hi139 (by kernel_rfl) ?hf139 ?hr139 ?hQ139 (Or.inl ⟨?hw139, ?hy139⟩) (by assumption) ?rest139
          case hi139 => simp only [List.getElem?_toArray, List.getElem?_cons_succ, List.getElem?_cons_zero]; rfl
          case hf139 => kernel_rfl
          case hr139 => kernel_rfl
          case hw139 => rfl
          case hy139 => (intro w hSw; (try dsimp only at hSw); go_simp; all_goals (first | done | with_reducible rfl))
          case hQ139 => exact fun _ _ _ h => h
          simp only [Act.put, List.setIfInBounds_toArray, List.set_cons_zero, List.set_cons_succ]
          refine wpAnyH_take (i := 11) (oi := ?oi140) (v := ?v140) ?hi140 (by kernel_rfl) ?hf140 ?hr140 ?hQ140 (Or.inl ⟨?hw140, ?hy140⟩) (by assumption) ?rest140
          case hi140 => simp only [List.getElem?_toArray, List.getElem?_cons_succ, List.getElem?_cons_zero]; rfl
          case hf140 => kernel_rfl
          case hr140 => kernel_rfl
          case hw140 => rfl
          case hy140 => (intro w hSw; (try dsimp only at hSw); go_simp; all_goals (first | done | with_reducible rfl))
          case hQ140 => exact fun _ _ _ h => h
          simp only [Act.put, List.setIfInBounds_toArray, List.set_cons_zero, List.set_cons_succ]
          refine wpAnyH_take (i := 12) (oi := ?oi141) (v := ?v141) ?hi141 (by kernel_rfl) ?hf141 ?hr141 ?hQ141 (Or.inl ⟨?hw141, ?hy141⟩) (by assumption) ?rest141
          case hi141 => simp only [List.getElem?_toArray, List.getElem?_cons_succ, List.getElem?_cons_zero]; rfl
          case hf141 => kernel_rfl
          case hr141 => kernel_rfl
          case hw141 => rfl
          case hy141 => (intro w hSw; (try dsimp only at hSw); go_simp; all_goals (first | done | with_reducible rfl))
          case hQ141 => exact fun _ _ _ h => h
          simp only [Act.put, List.setIfInBounds_toArray, List.set_cons_zero, List.set_cons_succ]
          refine wpAnyH_take (i := 13) (oi := ?oi142) (v := ?v142) ?hi142 (by kernel_rfl) ?hf142 ?hr142 ?hQ142 (Or.inl ⟨?hw142, ?hy142⟩) (by assumption) ?rest142
          case hi142 => simp only [List.getElem?_toArray, List.getElem?_cons_succ, List.getElem?_cons_zero]; rfl
          case hf142 => kernel_rfl
          case hr142 => kernel_rfl
          case hw142 => rfl
          case hy142 => (intro w hSw; (try dsimp only at hSw); go_simp; all_goals (first | done | with_reducible rfl))
          case hQ142 => exact fun _ _ _ h => h
          simp only [Act.put, List.setIfInBounds_toArray, List.set_cons_zero, List.set_cons_succ]
          refine wpAnyH_take (i := 14) (oi := ?oi143) (v := ?v143) ?hi143 (by kernel_rfl) ?hf143 ?hr143 ?hQ143 (Or.inl ⟨?hw143, ?hy143⟩) (by assumption) ?rest143
          case hi143 => simp only [List.getElem?_toArray, List.getElem?_cons_succ, List.getElem?_cons_zero]; rfl
          case hf143 => kernel_rfl
          case hr143 => kernel_rfl
          case hw143 => rfl
          case hy143 => (intro w hSw; (try dsimp only at hSw); go_simp; all_goals (first | done | with_reducible rfl))
          case hQ143 => exact fun _ _ _ h => h
          simp only [Act.put, List.setIfInBounds_toArray, List.set_cons_zero, List.set_cons_succ]
          refine wpAnyH_take (i := 15) (oi := ?oi144) (v := ?v144) ?hi144 (by kernel_rfl) ?hf144 ?hr144 ?hQ144 (Or.inl ⟨?hw144, ?hy144⟩) (by assumption) ?rest144
          case hi144 => simp only [List.getElem?_toArray, List.getElem?_cons_succ, List.getElem?_cons_zero]; rfl
          case hf144 => kernel_rfl
          case hr144 => kernel_rfl
          case hw144 => rfl
          case hy144 => (intro w hSw; (try dsimp only at hSw); go_simp; all_goals (first | done | with_reducible rfl))
          case hQ144 => exact fun _ _ _ h => h
          simp only [Act.put, List.setIfInBounds_toArray, List.set_cons_zero, List.set_cons_succ]
          refine wpAnyH_take (i := 16) (oi := ?oi145) (v := ?v145) ?hi145 (by kernel_rfl) ?hf145 ?hr145 ?hQ145 (Or.inl ⟨?hw145, ?hy145⟩) (by assumption) ?rest145
          case hi145 => simp only [List.getElem?_toArray, List.getElem?_cons_succ, List.getElem?_cons_zero]; rfl
          case hf145 => kernel_rfl
          case hr145 => kernel_rfl
          case hw145 => rfl
          case hy145 => (intro w hSw; (try dsimp only at hSw); go_simp; all_goals (first | done | with_reducible rfl))
          case hQ145 => exact fun _ _ _ h => h
          simp only [Act.put, List.setIfInBounds_toArray, List.set_cons_zero, List.set_cons_succ]
          refine wpAnyH_take (i := 17) (oi := ?oi146) (v := ?v146) ?hi146 (by kernel_rfl) ?hf146 ?hr146 ?hQ146 (Or.inl ⟨?hw146, ?hy146⟩) (by assumption) ?rest146
          case hi146 => simp only [List.getElem?_toArray, List.getElem?_cons_succ, List.getElem?_cons_zero]; rfl
          case hf146 => kernel_rfl
          case hr146 => kernel_rfl
          case hw146 => rfl
          case hy146 => (intro w hSw; (try dsimp only at hSw); go_simp; all_goals (first | done | with_reducible rfl))
          case hQ146 => exact fun _ _ _ h => h
          simp only [Act.put, List.setIfInBounds_toArray, List.set_cons_zero, List.set_cons_succ]
          refine wpAnyH_take (i := 18) (oi := ?oi147) (v := ?v147) ?hi147 (by kernel_rfl) ?hf147 ?hr147 ?hQ147 (Or.inl ⟨?hw147, ?hy147⟩) (by assumption) ?rest147
          case hi147 => simp only [List.getElem?_toArray, List.getElem?_cons_succ, List.getElem?_cons_zero]; rfl
          case hf147 => kernel_rfl
          case hr147 => kernel_rfl
          case hw147 => rfl
          case hy147 => (intro w hSw; (try dsimp only at hSw); go_simp; all_goals (first | done | with_reducible rfl))
          case hQ147 => exact fun _ _ _ h => h
          simp only [Act.put, List.setIfInBounds_toArray, List.set_cons_zero, List.set_cons_succ]
          refine wpAnyH_take (i := 19) (oi := ?oi148) (v := ?v148) ?hi148 (by kernel_rfl) ?hf148 ?hr148 ?hQ148 (Or.inl ⟨?hw148, ?hy148⟩) (by assumption) ?rest148
          case hi148 => simp only [List.getElem?_toArray, List.getElem?_cons_succ, List.getElem?_cons_zero]; rfl
          case hf148 => kernel_rfl
          case hr148 => kernel_rfl
          case hw148 => rfl
          case hy148 => (intro w hSw; (try dsimp only at hSw); go_simp; all_goals (first | done | with_reducible rfl))
          case hQ148 => exact fun _ _ _ h => h
          simp only [Act.put, List.setIfInBounds_toArray, List.set_cons_zero, List.set_cons_succ]
          refine wpAnyH_take (i := 20) (oi := ?oi149) (v := ?v149) ?hi149 (by kernel_rfl) ?hf149 ?hr149 ?hQ149 (Or.inl ⟨?hw149, ?hy149⟩) (by assumption) ?rest149
          case hi149 => simp only [List.getElem?_toArray, List.getElem?_cons_succ, List.getElem?_cons_zero]; rfl
          case hf149 => kernel_rfl
          case hr149 => kernel_rfl
          case hw149 => rfl
          case hy149 => (intro w hSw; (try dsimp only at hSw); go_simp; all_goals (first | done | with_reducible rfl))
          case hQ149 => exact fun _ _ _ h => h
          simp only [Act.put, List.setIfInBounds_toArray, List.set_cons_zero, List.set_cons_succ]
          refine wpAnyH_take (i := 21) (oi := ?oi150) (v := ?v150) ?hi150 (by kernel_rfl) ?hf150 ?hr150 ?hQ150 (Or.inl ⟨?hw150, ?hy150⟩) (by assumption) ?rest150
          case hi150 => simp only [List.getElem?_toArray, List.getElem?_cons_succ, List.getElem?_cons_zero]; rfl
          case hf150 => kernel_rfl
          case hr150 => kernel_rfl
          case hw150 => rfl
          case hy150 => (intro w hSw; (try dsimp only at hSw); go_simp; all_goals (first | done | with_reducible rfl))
          case hQ150 => exact fun _ _ _ h => h
          simp only [Act.put, List.setIfInBounds_toArray, List.set_cons_zero, List.set_cons_succ]
          refine wpAnyH_take (i := 22) (oi := ?oi151) (v := ?v151) ?hi151 (by kernel_rfl) ?hf151 ?hr151 ?hQ151 (Or.inl ⟨?hw151, ?hy151⟩) (by assumption) ?rest151
          case hi151 => simp only [List.getElem?_toArray, List.getElem?_cons_succ, List.getElem?_cons_zero]; rfl
          case hf151 => kernel_rfl
          case hr151 => kernel_rfl
          case hw151 => rfl
          case hy151 => (intro w hSw; (try dsimp only at hSw); go_simp; all_goals (first | done | with_reducible rfl))
          case hQ151 => exact fun _ _ _ h => h
          simp only [Act.put, List.setIfInBounds_toArray, List.set_cons_zero, List.set_cons_succ]
          refine wpAnyH_take (i := 23) (oi := ?oi152) (v := ?v152) ?hi152 (by kernel_rfl) ?hf152 ?hr152 ?hQ152 (Or.inl ⟨?hw152, ?hy152⟩) (by assumption) ?rest152
          case hi152 => simp only [List.getElem?_toArray, List.getElem?_cons_succ, List.getElem?_cons_zero]; rfl
          case hf152 => kernel_rfl
          case hr152 => kernel_rfl
          case hw152 => rfl
          case hy152 => (intro w hSw; (try dsimp only at hSw); go_simp; all_goals (first | done | with_reducible rfl))
          case hQ152 => exact fun _ _ _ h => h
          simp only [Act.put, List.setIfInBounds_toArray, List.set_cons_zero, List.set_cons_succ]
          refine wpAnyH_take (i := 24) (oi := ?oi153) (v := ?v153) ?hi153 (by kernel_rfl) ?hf153 ?hr153 ?hQ153 (Or.inl ⟨?hw153, ?hy153⟩) (by assumption) ?rest153
          case hi153 => simp only [List.getElem?_toArray, List.getElem?_cons_succ, List.getElem?_cons_zero]; rfl
          case hf153 => kernel_rfl
          case hr153 => kernel_rfl
          case hw153 => rfl
          case hy153 => (intro w hSw; (try dsimp only at hSw); go_simp; all_goals (first | done | with_reducible rfl))
          case hQ153 => exact fun _ _ _ h => h
          simp only [Act.put, List.setIfInBounds_toArray, List.set_cons_zero, List.set_cons_succ]
          refine wpAnyH_take (i := 25) (oi := ?oi154) (v := ?v154) ?hi154 (by kernel_rfl) ?hf154 ?hr154 ?hQ154 (Or.inl ⟨?hw154, ?hy154⟩) (by assumption) ?rest154
          case hi154 => simp only [List.getElem?_toArray, List.getElem?_cons_succ, List.getElem?_cons_zero]; rfl
          case hf154 => kernel_rfl
          case hr154 => kernel_rfl
          case hw154 => rfl
          case hy154 => (intro w hSw; (try dsimp only at hSw); go_simp; all_goals (first | done | with_reducible rfl))
          case hQ154 => exact fun _ _ _ h => h
          simp only [Act.put, List.setIfInBounds_toArray, List.set_cons_zero, List.set_cons_succ]
          refine wpAnyH_take (i := 26) (oi := ?oi155) (v := ?v155) ?hi155 (by kernel_rfl) ?hf155 ?hr155 ?hQ155 (Or.inl ⟨?hw155, ?hy155⟩) (by assumption) ?rest155
          case hi155 => simp only [List.getElem?_toArray, List.getElem?_cons_succ, List.getElem?_cons_zero]; rfl
          case hf155 => kernel_rfl
          case hr155 => kernel_rfl
          case hw155 => rfl
          case hy155 => (intro w hSw; (try dsimp only at hSw); go_simp; all_goals (first | done | with_reducible rfl))
          case hQ155 => exact fun _ _ _ h => h
          simp only [Act.put, List.setIfInBounds_toArray, List.set_cons_zero, List.set_cons_succ]
          refine wpAnyH_take (i := 27) (oi := ?oi156) (v := ?v156) ?hi156 (by kernel_rfl) ?hf156 ?hr156 ?hQ156 (Or.inl ⟨?hw156, ?hy156⟩) (by assumption) ?rest156
          case hi156 => simp only [List.getElem?_toArray, List.getElem?_cons_succ, List.getElem?_cons_zero]; rfl
          case hf156 => kernel_rfl
          case hr156 => kernel_rfl
          case hw156 => rfl
          case hy156 => (intro w hSw; (try dsimp only at hSw); go_simp; all_goals (first | done | with_reducible rfl))
          case hQ156 => exact fun _ _ _ h => h
          simp only [Act.put, List.setIfInBounds_toArray, List.set_cons_zero, List.set_cons_succ]
          refine wpAnyH_done (by kernel_rfl) ?_ _
          go_wp2_with fail
          go_ret
          exact ⟨rfl, HBd.out⟩
end Go.Proofs.Ythgkkckbncgfmaa
