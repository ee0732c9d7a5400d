/-
  BUFFERS: RunBuffer of the model. By gen_rb.py.
-/
import Derived.Test.YtfjpfdmlcgkfeaaRB1
import Derived.Test.YtfjpfdmlcgkfeaaHeld
import Derived.Deep.CutRange
namespace Go.Proofs.Ytfjpfdmlcgkfeaa
open Go.RowKit Nm
set_option linter.unusedSimpArgs false
set_option linter.unusedVariables false

set_option maxHeartbeats 16000000 in
set_option maxRecDepth 100000 in
theorem specRunBuffer_c {v v2 : Value} {B : Nat} {d : Buf} {l : List Rec} {w : World} (h : BufIn w B v d) (h2 : RecsIn w B v2 l) (hB : B ≤ w.heap.size) :
    Calls Try.prog 7 #[v, v2] w (RunPost w (rbB d l) (rbO d l) (rbOk d l)) := by
  have C1 := hid (fun (w1 : World) (hb : Below w.heap.size w w1) => specValidBuffer0_c (h.below hb hB) (Nat.le_trans hB hb.size))
  have C2 := hid (fun (w1 : World) (hb : Below w.heap.size w w1) => specValidRecords_c _ l.length B l w1 (h2.below hb hB).rs (Nat.le_trans hB hb.size))
  have HL2 := hid h2
  obtain ⟨rm, lv, rc⟩ := d
  obtain ⟨u, hu, hin⟩ := h
  obtain ⟨A, c, hAc, hnc, hcm⟩ := hin.1.1.form
  subst hAc
  subst hu
  obtain ⟨Al, cl, rfl, hlc, hlm⟩ := h2.1.1.form
  unfold maxLen at hlm hcm
  have HIN := hid hin
  have HRS := hid h2.1.2
  dsimp only at *
  have hl20 := h2.2
  unfold maxTxt at hl20
  have hX : rbOk ⟨rm, lv, rc⟩ l = (bufOk ⟨rm, lv, rc⟩ && recsOk l) := rfl
  have HX0 := hid (show rbB ⟨rm, lv, rc⟩ l = if rbOk ⟨rm, lv, rc⟩ l then runBd ⟨rm, lv, rc⟩ l else ⟨0, 0, []⟩ from rfl)
  have HX1 := hid (show rbO ⟨rm, lv, rc⟩ l = if rbOk ⟨rm, lv, rc⟩ l then runOd ⟨rm, lv, rc⟩ l else [] from rfl)
  rw [hX] at HX0 HX1 ⊢
  generalize rbB ⟨rm, lv, rc⟩ l = X0 at *
  generalize rbO ⟨rm, lv, rc⟩ l = X1 at *
  generalize hll : l.length = nl at *
  generalize hnn : rc.length = n at *
  replace hll := hid hll
  replace hnn := hid hnn
  have HR2 := hid (two_boxesB w rm lv A n c)
  have HB2 := hid (two_belowB w rm lv A n c)
  have hbr : w.heap.size ≤ w.heap.size + 1 := by omega
  clear h2 hX hin
  cases hz : bufOk ⟨rm, lv, rc⟩ with
  | false =>
    rw [hz] at C1 HX0 HX1
    clear C2 hz
    obtain rfl : X0 = ⟨0, 0, []⟩ := HX0.out
    obtain rfl : X1 = [] := HX1.out
    clear HX0 HX1
    go_enter Try.func7, Try.ntmps7
    go_wp2_with fail
    refine (C1.out _ HB2.out).mono ?_
    rintro e w1 ⟨rfl, hb⟩
    replace HR2 := hid (HR2.out.below hb)
    replace HB2 := hid (HB2.out.trans (hb.mono HB2.out.size))
    clear hb C1
    obtain ⟨r0, x0, _⟩ := Rows.bcell2 (pre := []) (q := 0) HR2.out rfl
    obtain ⟨r1, x1, _⟩ := Rows.bcell2 (pre := []) (q := 1) HR2.out rfl
    obtain ⟨r2, x2, _⟩ := Rows.bcell2 (pre := []) (q := 2) HR2.out rfl
    go_wp2_with fail
    have Y2 := Rows.boxset (pre := []) (j := 0) (u := .int .i64 0) HR2.out
    have Y3 := Rows.boxset (pre := []) (j := 1) (u := .int .i64 0) Y2
    have Y4 := Rows.boxset (pre := []) (j := 2) (u := .slice none 0 0) Y3
    have f0 := (Rows.bcell2 (pre := []) (q := 0) Y4 rfl).1
    have f1 := (Rows.bcell2 (pre := []) (q := 1) Y4 rfl).1
    have f2 := (Rows.bcell2 (pre := []) (q := 2) Y4 rfl).1
    refine bodyPost_ret (v := .tuple #[.agg #[.int .i64 0, .int .i64 0, .slice none 0 0], .slice none 0 0, .bool false]) (by simp [results, Try.results7, go_sem, f0, f1, f2]) rfl ?_
    exact run_none rfl (((HB2.out.setCell (p := ⟨w.heap.size + 1, 0, none⟩) hbr (.int .i64 0)).setCell (p := ⟨w.heap.size + 1, 1, none⟩) hbr (.int .i64 0)).setCell (p := ⟨w.heap.size + 1, 2, none⟩) hbr (.slice none 0 0))
  | true =>
    rw [hz] at C1 HX0 HX1
    cases hq : recsOk l with
    | false =>
      rw [hq] at C2 HX0 HX1
      clear hz hq
      obtain rfl : X0 = ⟨0, 0, []⟩ := HX0.out
      obtain rfl : X1 = [] := HX1.out
      clear HX0 HX1
      go_enter Try.func7, Try.ntmps7
      go_wp2_with fail
      refine (C1.out _ HB2.out).mono ?_
      rintro e w1 ⟨rfl, hb⟩
      replace HR2 := hid (HR2.out.below hb)
      replace HB2 := hid (HB2.out.trans (hb.mono HB2.out.size))
      clear hb C1
      go_wp2_with fail
      refine (C2.out _ HB2.out).mono ?_
      rintro e w1 ⟨rfl, hb⟩
      replace HR2 := hid (HR2.out.below hb)
      replace HB2 := hid (HB2.out.trans (hb.mono HB2.out.size))
      clear hb C2
      obtain ⟨r0, x0, _⟩ := Rows.bcell2 (pre := []) (q := 0) HR2.out rfl
      obtain ⟨r1, x1, _⟩ := Rows.bcell2 (pre := []) (q := 1) HR2.out rfl
      obtain ⟨r2, x2, _⟩ := Rows.bcell2 (pre := []) (q := 2) HR2.out rfl
      go_wp2_with fail
      have Y2 := Rows.boxset (pre := []) (j := 0) (u := .int .i64 0) HR2.out
      have Y3 := Rows.boxset (pre := []) (j := 1) (u := .int .i64 0) Y2
      have Y4 := Rows.boxset (pre := []) (j := 2) (u := .slice none 0 0) Y3
      have f0 := (Rows.bcell2 (pre := []) (q := 0) Y4 rfl).1
      have f1 := (Rows.bcell2 (pre := []) (q := 1) Y4 rfl).1
      have f2 := (Rows.bcell2 (pre := []) (q := 2) Y4 rfl).1
      refine bodyPost_ret (v := .tuple #[.agg #[.int .i64 0, .int .i64 0, .slice none 0 0], .slice none 0 0, .bool false]) (by simp [results, Try.results7, go_sem, f0, f1, f2]) rfl ?_
      exact run_none rfl (((HB2.out.setCell (p := ⟨w.heap.size + 1, 0, none⟩) hbr (.int .i64 0)).setCell (p := ⟨w.heap.size + 1, 1, none⟩) hbr (.int .i64 0)).setCell (p := ⟨w.heap.size + 1, 2, none⟩) hbr (.slice none 0 0))
    | true =>
      rw [hq] at C2 HX0 HX1
      replace HX0 := hid (show X0 = runBd ⟨rm, lv, rc⟩ l from HX0.out)
      replace HX1 := hid (show X1 = runOd ⟨rm, lv, rc⟩ l from HX1.out)
      have HOK := hid hz
      have HQL := hid hq
      have hnl : nl ≤ 12 := by have h9 := rcsOk_len hq; have := hll.out; omega
      have hn12 : n ≤ 12 := by have h9 := (bufOk_len hz).1; have := hnn.out; dsimp only at h9; omega
      have HRL := hid (fun k => runBd_rl (l.take k) ⟨rm, lv, rc⟩)
      have HFIT := hid (fun (k : Nat) => (run_fit (l.take k) ⟨rm, lv, rc⟩ hz (show RecsFit rc from ⟨HIN.out.2, HIN.out.1.2⟩) fun x hx => ⟨recs_atB hq (List.mem_of_mem_take hx), HRS.out x (List.mem_of_mem_take hx)⟩).1)
      have HBOK := hid (fun (k : Nat) => runBd_ok (l.take k) ⟨rm, lv, rc⟩ hz fun x hx => recs_atB hq (List.mem_of_mem_take hx))
      clear hz hq
      have C3 := hid (fun (w1 : World) (hb : Below w.heap.size w w1) => copyRecords_c (HIN.out.below hb hB) (Nat.le_trans hB hb.size))
      go_enter Try.func7, Try.ntmps7
      go_wp2_with fail
      refine (C1.out _ HB2.out).mono ?_
      rintro e w1 ⟨rfl, hb⟩
      replace HR2 := hid (HR2.out.below hb)
      replace HB2 := hid (HB2.out.trans (hb.mono HB2.out.size))
      clear hb C1
      go_wp2_with fail
      refine (C2.out _ HB2.out).mono ?_
      rintro e w2 ⟨rfl, hb⟩
      replace HR2 := hid (HR2.out.below hb)
      replace HB2 := hid (HB2.out.trans (hb.mono HB2.out.size))
      clear hb C2
      have HR3 := hid (show Rows (w2.alloc (.cells #[] 27)) w.heap.size ([⟨27, 1, 0, .slice (some ⟨w2.heap.size, 0, none⟩) 0 0, []⟩] ++ ([bxRow 29 3 (w.heap.size + 1) [.int .i64 0, .int .i64 0, .slice none 0 0]] ++ [bxRow 29 3 w.heap.size [.int .i64 rm, .int .i64 lv, .slice A n c]])) from HR2.out.lit HB2.out.size #[] 27 0 rfl (by omega))
      have HB3 := hid (HB2.out.alloc HB2.out.size (.cells #[] 27))
      clear HR2 HB2
      go_wp2_with fail
      generalize w2.heap.size = bl at *
      generalize w2.alloc (.cells #[] 27) = w3 at *
      have hw3 : w.heap.size < w3.heap.size := (Rows.bc HR3.out.right.right 0 rfl).2
      go_cut [8] from 9 (fun s8 wc => ∃ (bo : Nat) (A2 : Option Addr) (c2 : Nat), s8 = .pointer (some ⟨bo, 0, none⟩) ∧ w3.heap.size ≤ bo ∧ Hid (Rows wc w.heap.size ([bxRow 29 3 bo [.int .i64 rm, .int .i64 lv, .slice A2 n c2]] ++ ([bxRow 29 3 (w.heap.size + 1) [.int .i64 0, .int .i64 0, .slice none 0 0]] ++ ([⟨46, 4, n, .slice A2 n c2, rc.flatMap rcells⟩] ++ [⟨27, 1, 0, .slice (some ⟨bl, 0, none⟩) 0 0, []⟩])))) ∧ Hid (Below w.heap.size w wc))
      case first =>
        have p0 := (Rows.bc HR3.out.right.right 0 rfl).1
        have p1 := (Rows.bc HR3.out.right.right 1 rfl).1
        have p2 := (Rows.bc HR3.out.right.right 2 rfl).1
        refine wp_region_held_drew (S := (fun w' : World => w'.cell? ⟨w.heap.size, 0, none⟩ = some (.int .i64 rm) ∧ w'.cell? ⟨w.heap.size, 1, none⟩ = some (.int .i64 lv) ∧ w'.cell? ⟨w.heap.size, 2, none⟩ = some (.slice A n c))) (by kernel_rfl) ⟨p0, p1, p2⟩ (fun hS => ?_)
        refine wpAnyH_take (i := 0) (oi := ?oi101) (v := ?v101) ?hi101 (by kernel_rfl) ?hf101 ?hr101 ?hQ101 (Or.inl ⟨?hw101, ?hy101⟩) (by assumption) ?rest101
        case hi101 => simp only [List.getElem?_toArray, List.getElem?_cons_succ, List.getElem?_cons_zero]; rfl
        case hf101 => kernel_rfl
        case hr101 => kernel_rfl
        case hw101 => rfl
        case hy101 => (intro w hSw; (try dsimp only at hSw); go_simp; all_goals (first | done | with_reducible rfl))
        case hQ101 => exact fun _ _ _ h => h
        simp only [Act.put, List.setIfInBounds_toArray, List.set_cons_zero, List.set_cons_succ]
        refine wpAnyH_take (i := 1) (oi := ?oi102) (v := ?v102) ?hi102 (by kernel_rfl) ?hf102 ?hr102 ?hQ102 (Or.inl ⟨?hw102, ?hy102⟩) (by assumption) ?rest102
        case hi102 => simp only [List.getElem?_toArray, List.getElem?_cons_succ, List.getElem?_cons_zero]; rfl
        case hf102 => kernel_rfl
        case hr102 => kernel_rfl
        case hw102 => rfl
        case hy102 => (intro w hSw; (try dsimp only at hSw); go_simp; all_goals (first | done | with_reducible rfl))
        case hQ102 => exact fun _ _ _ h => h
        simp only [Act.put, List.setIfInBounds_toArray, List.set_cons_zero, List.set_cons_succ]
        refine wpAnyH_take (i := 2) (oi := ?oi103) (v := ?v103) ?hi103 (by kernel_rfl) ?hf103 ?hr103 ?hQ103 (Or.inl ⟨?hw103, ?hy103⟩) (by assumption) ?rest103
        case hi103 => simp only [List.getElem?_toArray, List.getElem?_cons_succ, List.getElem?_cons_zero]; rfl
        case hf103 => kernel_rfl
        case hr103 => kernel_rfl
        case hw103 => rfl
        case hy103 => (intro w hSw; (try dsimp only at hSw); go_simp; all_goals (first | done | with_reducible rfl))
        case hQ103 => exact fun _ _ _ h => h
        simp only [Act.put, List.setIfInBounds_toArray, List.set_cons_zero, List.set_cons_succ]
        refine wpAnyH_take (i := 3) (oi := ?oi104) (v := ?v104) ?hi104 (by kernel_rfl) ?hf104 ?hr104 ?hQ104 (Or.inl ⟨?hw104, ?hy104⟩) (by assumption) ?rest104
        case hi104 => simp only [List.getElem?_toArray, List.getElem?_cons_succ, List.getElem?_cons_zero]; rfl
        case hf104 => kernel_rfl
        case hr104 => kernel_rfl
        case hw104 => rfl
        case hy104 => (intro w hSw; (try dsimp only at hSw); go_simp; all_goals (first | done | with_reducible rfl))
        case hQ104 => exact fun _ _ _ h => h
        simp only [Act.put, List.setIfInBounds_toArray, List.set_cons_zero, List.set_cons_succ]
        refine wpAnyH_take (i := 4) (oi := ?oi105) (v := ?v105) ?hi105 (by kernel_rfl) ?hf105 ?hr105 ?hQ105 (Or.inl ⟨?hw105, ?hy105⟩) (by assumption) ?rest105
        case hi105 => simp only [List.getElem?_toArray, List.getElem?_cons_succ, List.getElem?_cons_zero]; rfl
        case hf105 => kernel_rfl
        case hr105 => kernel_rfl
        case hw105 => rfl
        case hy105 => (intro w hSw; (try dsimp only at hSw); go_simp; all_goals (first | done | with_reducible rfl))
        case hQ105 => exact fun _ _ _ h => h
        simp only [Act.put, List.setIfInBounds_toArray, List.set_cons_zero, List.set_cons_succ]
        refine wpAnyH_take (i := 5) (oi := ?oi106) (v := ?v106) ?hi106 (by kernel_rfl) ?hf106 ?hr106 ?hQ106 (Or.inl ⟨?hw106, ?hy106⟩) (by assumption) ?rest106
        case hi106 => simp only [List.getElem?_toArray, List.getElem?_cons_succ, List.getElem?_cons_zero]; rfl
        case hf106 => kernel_rfl
        case hr106 => kernel_rfl
        case hw106 => rfl
        case hy106 => (intro w hSw; (try dsimp only at hSw); go_simp; all_goals (first | done | with_reducible rfl))
        case hQ106 => exact fun _ _ _ h => h
        simp only [Act.put, List.setIfInBounds_toArray, List.set_cons_zero, List.set_cons_succ]
        refine wpAnyH_ready (rs := [6, 8]) (by kernel_rfl) (by simp) ?_
        refine AllReadyH.cons (o := ?oi107) ?hi107 (fun K hK => ?stepA107) (AllReadyH.cons (o := ?oj107) ?hj107 (fun K hK => ?stepB107) AllReadyH.nil)
        case hi107 => simp only [List.getElem?_toArray, List.getElem?_cons_succ, List.getElem?_cons_zero]; rfl
        case hj107 => simp only [List.getElem?_toArray, List.getElem?_cons_succ, List.getElem?_cons_zero]; rfl
        all_goals rw [if_pos (by rfl)]
        all_goals go_simp
        · go_at_call 27
          refine (C3.out _ HB3.out.drew).mono ?_
          rintro e w4 ⟨u2, rfl, ho2, hb2⟩
          obtain ⟨A2, c2, rfl, _, _⟩ := (Sl.of_own ho2).form
          rw [hnn.out] at ho2 ⊢
          have HR4 := hid (HR3.out.dr.newer hb2 (Rows.one (r := ⟨46, 4, n, .slice A2 n c2, rc.flatMap rcells⟩) ho2) HB3.out.size)
          have HB4 := hid (HB3.out.drew.trans (hb2.mono HB3.out.size))
          have hsz2 : w3.heap.size ≤ w4.heap.size := hb2.size
          clear ho2 hb2 p0 p1 p2
          have p0 := (Rows.bc HR4.out.right.right.right 0 rfl).1
          have p1 := (Rows.bc HR4.out.right.right.right 1 rfl).1
          have p2 := (Rows.bc HR4.out.right.right.right 2 rfl).1
          refine hK.out _ _ ⟨p0, p1, p2⟩ (fun hS9 => ?_)
          refine wpAnyH_take (i := 7) (oi := ?oi108) (v := ?v108) ?hi108 (by kernel_rfl) ?hf108 ?hr108 ?hQ108 (Or.inl ⟨?hw108, ?hy108⟩) (by assumption) ?rest108
          case hi108 => simp only [List.getElem?_toArray, List.getElem?_cons_succ, List.getElem?_cons_zero]; rfl
          case hf108 => kernel_rfl
          case hr108 => kernel_rfl
          case hw108 => rfl
          case hy108 => (intro w hSw; (try dsimp only at hSw); go_simp; all_goals (first | done | with_reducible rfl))
          case hQ108 => exact fun _ _ _ h => h
          simp only [Act.put, List.setIfInBounds_toArray, List.set_cons_zero, List.set_cons_succ]
          refine wpAnyH_ready (rs := [8]) (by kernel_rfl) (by simp) ?_
          refine AllReadyH.cons (o := ?oi109) ?hi109 (fun K hK => ?step109) AllReadyH.nil
          case hi109 => simp only [List.getElem?_toArray, List.getElem?_cons_succ, List.getElem?_cons_zero]; rfl
          rw [if_pos (by rfl)]
          go_simp
          have HR5 := hid (HR4.out.bx HB4.out.size #[.int .i64 0, .int .i64 0, .slice none 0 0] 29 3 rfl)
          have HB5 := hid (HB4.out.alloc HB4.out.size (.cells #[.int .i64 0, .int .i64 0, .slice none 0 0] 29))
          have hbo : w3.heap.size ≤ w4.heap.size := hsz2
          have hbo2 : w.heap.size ≤ w4.heap.size := by omega
          have ne1 : w4.heap.size ≠ w.heap.size := by omega
          clear p0 p1 p2
          have p0 := (Rows.bc HR5.out.right.right.right.right 0 rfl).1
          have p1 := (Rows.bc HR5.out.right.right.right.right 1 rfl).1
          have p2 := (Rows.bc HR5.out.right.right.right.right 2 rfl).1
          refine hK.out _ _ ⟨p0, p1, p2⟩ (fun hS9 => ?_)
          generalize w4.alloc (.cells #[.int .i64 0, .int .i64 0, .slice none 0 0] 29) = w5 at *
          generalize w4.heap.size = bo at *
          replace HR5 := hid (show Rows w5 w.heap.size ([bxRow 29 3 bo [.int .i64 0, .int .i64 0, .slice none 0 0]] ++ ([bxRow 29 3 (w.heap.size + 1) [.int .i64 0, .int .i64 0, .slice none 0 0]] ++ ([⟨46, 4, n, .slice A2 n c2, rc.flatMap rcells⟩] ++ ([⟨27, 1, 0, .slice (some ⟨bl, 0, none⟩) 0 0, []⟩] ++ [bxRow 29 3 w.heap.size [.int .i64 rm, .int .i64 lv, .slice A n c]])))) from HR5.out.re5 [0, 3, 1, 2, 4] rfl)
          obtain ⟨z0c, z0, _⟩ := Rows.bcell2 (pre := []) (q := 0) HR5.out rfl
          obtain ⟨z1c, z1, _⟩ := Rows.bcell2 (pre := []) (q := 1) HR5.out rfl
          obtain ⟨z2c, z2, _⟩ := Rows.bcell2 (pre := []) (q := 2) HR5.out rfl
          refine wpAnyH_ready (rs := [9]) (by kernel_rfl) (by simp) ?_
          refine AllReadyH.cons (o := ?oi110) ?hi110 (fun K hK => ?step110) AllReadyH.nil
          case hi110 => simp only [List.getElem?_toArray, List.getElem?_cons_succ, List.getElem?_cons_zero]; rfl
          rw [if_pos (by rfl)]
          go_simp
          have far : ∀ (W : World) (q q' : Nat) (u u' : Value), W.cell? ⟨w.heap.size, q, none⟩ = some u → (W.setCell ⟨bo, q', none⟩ u').cell? ⟨w.heap.size, q, none⟩ = some u := fun W q q' u u' h => (World.cell?_setCell_far _ _ _ _ ne1).trans h
          refine hK.out _ _ ⟨far _ _ _ _ _ (far _ _ _ _ _ (far _ _ _ _ _ p0)), far _ _ _ _ _ (far _ _ _ _ _ (far _ _ _ _ _ p1)), far _ _ _ _ _ (far _ _ _ _ _ (far _ _ _ _ _ p2))⟩ (fun hS9 => ?_)
          refine wpAnyH_done (by kernel_rfl) ?_ _
          clear far hS hS9 p0 p1 p2 z0c z1c z2c z0 z1 z2
          have Y0 := Rows.boxset (pre := []) (j := 0) (u := .int .i64 rm) HR5.out
          have Y1 := Rows.boxset (pre := []) (j := 1) (u := .int .i64 lv) Y0
          have Y2 := hid (Rows.boxset (pre := []) (j := 2) (u := .slice A2 n c2) Y1)
          clear Y0 Y1
          go_wp2_with fail
          go_meet
          case rel => exact ⟨_, A2, c2, rfl, hbo, (show Rows _ w.heap.size ([bxRow 29 3 bo [.int .i64 rm, .int .i64 lv, .slice A2 n c2]] ++ ([bxRow 29 3 (w.heap.size + 1) [.int .i64 0, .int .i64 0, .slice none 0 0]] ++ ([⟨46, 4, n, .slice A2 n c2, rc.flatMap rcells⟩] ++ ([⟨27, 1, 0, .slice (some ⟨bl, 0, none⟩) 0 0, []⟩] ++ [bxRow 29 3 w.heap.size [.int .i64 rm, .int .i64 lv, .slice A n c]])))) from Y2.out).re5 [0, 1, 2, 3] rfl, ((HB5.out.setCell (p := ⟨_, 0, none⟩) hbo2 (.int .i64 rm)).setCell (p := ⟨_, 1, none⟩) hbo2 (.int .i64 lv)).setCell (p := ⟨_, 2, none⟩) hbo2 (.slice A2 n c2)⟩
        · have HR4 := hid (HR3.out.dr.bx HB3.out.size #[.int .i64 0, .int .i64 0, .slice none 0 0] 29 3 rfl)
          have HB4 := hid (HB3.out.drew.alloc HB3.out.size (.cells #[.int .i64 0, .int .i64 0, .slice none 0 0] 29))
          simp only [show w3.drew.heap.size = w3.heap.size from rfl] at HR4 HB4
          clear p0 p1 p2
          have p0 := (Rows.bc HR4.out.right.right.right 0 rfl).1
          have p1 := (Rows.bc HR4.out.right.right.right 1 rfl).1
          have p2 := (Rows.bc HR4.out.right.right.right 2 rfl).1
          refine hK.out _ _ ⟨p0, p1, p2⟩ (fun hS9 => ?_)
          refine wpAnyH_ready (rs := [6]) (by kernel_rfl) (by simp) ?_
          refine AllReadyH.cons (o := ?oi111) ?hi111 (fun K hK => ?step111) AllReadyH.nil
          case hi111 => simp only [List.getElem?_toArray, List.getElem?_cons_succ, List.getElem?_cons_zero]; rfl
          rw [if_pos (by rfl)]
          go_simp
          go_at_call 27
          refine (C3.out _ HB4.out).mono ?_
          rintro e w5 ⟨u2, rfl, ho2, hb2⟩
          obtain ⟨A2, c2, rfl, _, _⟩ := (Sl.of_own ho2).form
          rw [hnn.out] at ho2 ⊢
          have HR5 := hid (HR4.out.newer hb2 (Rows.one (r := ⟨46, 4, n, .slice A2 n c2, rc.flatMap rcells⟩) ho2) HB4.out.size)
          have HB5 := hid (HB4.out.trans (hb2.mono HB4.out.size))
          have hbo : w3.heap.size ≤ w3.heap.size := Nat.le_refl _
          have hbo2 : w.heap.size ≤ w3.heap.size := by omega
          have ne1 : w3.heap.size ≠ w.heap.size := by omega
          clear ho2 hb2 p0 p1 p2
          replace HR5 := hid (show Rows w5 w.heap.size ([bxRow 29 3 w3.heap.size [.int .i64 0, .int .i64 0, .slice none 0 0]] ++ ([bxRow 29 3 (w.heap.size + 1) [.int .i64 0, .int .i64 0, .slice none 0 0]] ++ ([⟨46, 4, n, .slice A2 n c2, rc.flatMap rcells⟩] ++ ([⟨27, 1, 0, .slice (some ⟨bl, 0, none⟩) 0 0, []⟩] ++ [bxRow 29 3 w.heap.size [.int .i64 rm, .int .i64 lv, .slice A n c]])))) from HR5.out.re5 [1, 3, 0, 2, 4] rfl)
          have p0 := (Rows.bc HR5.out.right.right.right.right 0 rfl).1
          have p1 := (Rows.bc HR5.out.right.right.right.right 1 rfl).1
          have p2 := (Rows.bc HR5.out.right.right.right.right 2 rfl).1
          refine hK.out _ _ ⟨p0, p1, p2⟩ (fun hS9 => ?_)
          refine wpAnyH_take (i := 7) (oi := ?oi112) (v := ?v112) ?hi112 (by kernel_rfl) ?hf112 ?hr112 ?hQ112 (Or.inl ⟨?hw112, ?hy112⟩) (by assumption) ?rest112
          case hi112 => simp only [List.getElem?_toArray, List.getElem?_cons_succ, List.getElem?_cons_zero]; rfl
          case hf112 => kernel_rfl
          case hr112 => kernel_rfl
          case hw112 => rfl
          case hy112 => (intro w hSw; (try dsimp only at hSw); go_simp; all_goals (first | done | with_reducible rfl))
          case hQ112 => exact fun _ _ _ h => h
          simp only [Act.put, List.setIfInBounds_toArray, List.set_cons_zero, List.set_cons_succ]
          generalize hbv : w3.heap.size = bo at *
          obtain ⟨z0c, z0, _⟩ := Rows.bcell2 (pre := []) (q := 0) HR5.out rfl
          obtain ⟨z1c, z1, _⟩ := Rows.bcell2 (pre := []) (q := 1) HR5.out rfl
          obtain ⟨z2c, z2, _⟩ := Rows.bcell2 (pre := []) (q := 2) HR5.out rfl
          refine wpAnyH_ready (rs := [9]) (by kernel_rfl) (by simp) ?_
          refine AllReadyH.cons (o := ?oi113) ?hi113 (fun K hK => ?step113) AllReadyH.nil
          case hi113 => simp only [List.getElem?_toArray, List.getElem?_cons_succ, List.getElem?_cons_zero]; rfl
          rw [if_pos (by rfl)]
          go_simp
          have far : ∀ (W : World) (q q' : Nat) (u u' : Value), W.cell? ⟨w.heap.size, q, none⟩ = some u → (W.setCell ⟨bo, q', none⟩ u').cell? ⟨w.heap.size, q, none⟩ = some u := fun W q q' u u' h => (World.cell?_setCell_far _ _ _ _ ne1).trans h
          refine hK.out _ _ ⟨far _ _ _ _ _ (far _ _ _ _ _ (far _ _ _ _ _ p0)), far _ _ _ _ _ (far _ _ _ _ _ (far _ _ _ _ _ p1)), far _ _ _ _ _ (far _ _ _ _ _ (far _ _ _ _ _ p2))⟩ (fun hS9 => ?_)
          refine wpAnyH_done (by kernel_rfl) ?_ _
          clear far hS hS9 p0 p1 p2 z0c z1c z2c z0 z1 z2
          have Y0 := Rows.boxset (pre := []) (j := 0) (u := .int .i64 rm) HR5.out
          have Y1 := Rows.boxset (pre := []) (j := 1) (u := .int .i64 lv) Y0
          have Y2 := hid (Rows.boxset (pre := []) (j := 2) (u := .slice A2 n c2) Y1)
          clear Y0 Y1
          go_wp2_with fail
          go_meet
          case rel => exact ⟨_, A2, c2, rfl, hbo, (show Rows _ w.heap.size ([bxRow 29 3 bo [.int .i64 rm, .int .i64 lv, .slice A2 n c2]] ++ ([bxRow 29 3 (w.heap.size + 1) [.int .i64 0, .int .i64 0, .slice none 0 0]] ++ ([⟨46, 4, n, .slice A2 n c2, rc.flatMap rcells⟩] ++ ([⟨27, 1, 0, .slice (some ⟨bl, 0, none⟩) 0 0, []⟩] ++ [bxRow 29 3 w.heap.size [.int .i64 rm, .int .i64 lv, .slice A n c]])))) from Y2.out).re5 [0, 1, 2, 3] rfl, ((HB5.out.setCell (p := ⟨_, 0, none⟩) hbo2 (.int .i64 rm)).setCell (p := ⟨_, 1, none⟩) hbo2 (.int .i64 lv)).setCell (p := ⟨_, 2, none⟩) hbo2 (.slice A2 n c2)⟩
      case rest =>
        clear HR3 HB3
        obtain ⟨bo, A2, c2, rfl, hbo, HR, HB⟩ := hcut
        rename World => wc
        have hbo2 : w.heap.size ≤ bo := by omega
        clear C3
        go_wp2_with fail
        go_loopw [7, 9, 10, 11] (fun bv iv nx bx wr => ∃ (k m n2 : Nat) (A2 : Option Addr) (c2 : Nat) (A5 : Option Addr) (c5 : Nat) (es : List Cell2) (rs : List Row) (x : List Rec), iv = .int .i64 k ∧ bv = .slice A5 m c5 ∧ k ≤ nl ∧ Hid (runBd ⟨rm, lv, rc⟩ (l.take k) = ⟨rm, lv, x⟩) ∧ Hid (es.length = m ∧ NE RecsR es (runOd ⟨rm, lv, rc⟩ (l.take k))) ∧ Hid (RecsR rs (.slice A2 n2 c2) x) ∧ Hid (Rows wr w.heap.size ([bxRow 29 3 bo [.int .i64 rm, .int .i64 lv, .slice A2 n2 c2]] ++ ([bxRow 29 3 (w.heap.size + 1) [.int .i64 0, .int .i64 0, .slice none 0 0]] ++ (rs ++ nestRows 27 (.slice A5 m c5) es)))) ∧ Hid (Below w.heap.size w wr)) (fun _ iv _ _ _ => nl - (intOf iv).toNat)
        case atStart => exact ⟨0, 0, n, A2, c2, _, _, [], _, rc, rfl, rfl, Nat.zero_le _, by rw [List.take_zero]; rfl, ⟨rfl, by rw [List.take_zero]; exact NE.nil⟩, (show RecsR [⟨46, 4, n, .slice A2 n c2, rc.flatMap rcells⟩] (.slice A2 n c2) rc by unfold RecsR; rw [hnn.out]), HR.out, HB.out⟩
        case round =>
          clear HR HB
          rename World => wr
          obtain ⟨k, m, n3, A3, c3, A5, c5, es, rs3, x, rfl, rfl, hk, HG, HN, HE, HR, HB⟩ := hrel
          by_cases hlt : k < nl
          · obtain ⟨b, ob, nm, rl, tx, sq, rfl, hbB, hx, c0, c1, c2, c3'⟩ := rcells_at (show Sl wr B 4 nl (.slice Al nl cl) (l.flatMap rcells) by have := (HL2.out.below HB.out hB).1.1; rwa [hll.out] at this) hlt
            have hfr := HRS.out _ (List.mem_of_getElem? hx)
            have hrl := HFIT.out k
            rw [HG.out] at hrl
            have hm12 : m ≤ 12 := by
              have h1 := HN.out.1; have h2 := HN.out.2.1; have h3 := runOd_len (l.take k) ⟨rm, lv, rc⟩
              rw [List.length_take] at h3; omega
            have C5 := hid (fun (W : World) (v : Value) (h : BufIn W W.heap.size v ⟨rm, lv, x⟩) => specPush_c nm tx rl sq h (Nat.le_refl _))
            have hst := rb_step (d := ⟨rm, lv, rc⟩) HG.out hx
            rw [outsR_of] at hst
            dsimp only at hst
            have HST1 := hid hst.1
            have HST2 := hid hst.2
            have HEF := hid (show BufFit ⟨rm, lv, x⟩ from hrl)
            have hwm := (pushB_rl ⟨rm, lv, x⟩ (⟨nm.data.toList, rl, tx.data.toList, sq⟩ : Rec)).1
            have hwk := (pushB_rl ⟨rm, lv, x⟩ (⟨nm.data.toList, rl, tx.data.toList, sq⟩ : Rec)).2
            have hlt' : (k : Int) < (nl : Int) := by omega
            generalize pushB ⟨rm, lv, x⟩ (⟨nm.data.toList, rl, tx.data.toList, sq⟩ : Rec) = E at *
            generalize pushR ⟨rm, lv, x⟩ (⟨nm.data.toList, rl, tx.data.toList, sq⟩ : Rec) = Y at *
            obtain ⟨em, ek, el⟩ := E
            obtain rfl : em = rm := hwm
            obtain rfl : ek = lv := hwk
            have hwb : bo < wr.heap.size := (Rows.bc HR.out.left 0 rfl).2
            have hbw : b < wr.heap.size := by have := HB.out.size; omega
            have hbne : bo ≠ b := by omega
            have d0 := (Rows.bc HR.out.left 0 rfl).1
            have d1 := (Rows.bc HR.out.left 1 rfl).1
            have d2 := (Rows.bc HR.out.left 2 rfl).1
            clear hx hfr hrl hst
            go_wp2_with fail
            go_cut [10, 11] from 30 to 52 (fun s10 s11 wc => ∃ (bn n6 n7 : Nat) (A6 : Option Addr) (c6 : Nat) (A7 : Option Addr) (c7 : Nat) (rs5 rs6 : List Row), s10 = .pointer (some ⟨bn, 0, none⟩) ∧ s11 = .slice A7 n7 c7 ∧ wr.heap.size ≤ bn ∧ Hid (RecsR rs5 (.slice A6 n6 c6) el) ∧ Hid (RecsR rs6 (.slice A7 n7 c7) Y) ∧ Hid (Rows wc w.heap.size ([bxRow 29 3 bn [.int .i64 em, .int .i64 ek, .slice A6 n6 c6]] ++ ([bxRow 29 3 bo [.int .i64 em, .int .i64 ek, .slice A3 n3 c3]] ++ ([bxRow 29 3 (w.heap.size + 1) [.int .i64 0, .int .i64 0, .slice none 0 0]] ++ (rs5 ++ (rs6 ++ nestRows 27 (.slice A5 m c5) es)))))) ∧ Hid (Below w.heap.size w wc))
            case first =>
              refine wp_region_held_drew (S := (fun w' : World => (w'.cell? ⟨bo, 0, none⟩ = some (.int .i64 em) ∧ w'.cell? ⟨bo, 1, none⟩ = some (.int .i64 ek) ∧ w'.cell? ⟨bo, 2, none⟩ = some (.slice A3 n3 c3)) ∧ w'.cell? ⟨b, ob + k * 4, none⟩ = some (.string nm) ∧ w'.cell? ⟨b, ob + k * 4 + 1, none⟩ = some (.int .i64 rl) ∧ w'.cell? ⟨b, ob + k * 4 + 2, none⟩ = some (.string tx) ∧ w'.cell? ⟨b, ob + k * 4 + 3, none⟩ = some (.int .i64 sq))) (by kernel_rfl) ⟨⟨d0, d1, d2⟩, c0, c1, c2, c3'⟩ (fun hS => ?_)
              refine wpAnyH_take (i := 0) (oi := ?oi114) (v := ?v114) ?hi114 (by kernel_rfl) ?hf114 ?hr114 ?hQ114 (Or.inl ⟨?hw114, ?hy114⟩) (by assumption) ?rest114
              case hi114 => simp only [List.getElem?_toArray, List.getElem?_cons_succ, List.getElem?_cons_zero]; rfl
              case hf114 => kernel_rfl
              case hr114 => kernel_rfl
              case hw114 => rfl
              case hy114 => (intro w hSw; (try dsimp only at hSw); go_simp; all_goals (first | done | with_reducible rfl))
              case hQ114 => exact fun _ _ _ h => h
              simp only [Act.put, List.setIfInBounds_toArray, List.set_cons_zero, List.set_cons_succ]
              refine wpAnyH_take (i := 1) (oi := ?oi115) (v := ?v115) ?hi115 (by kernel_rfl) ?hf115 ?hr115 ?hQ115 (Or.inl ⟨?hw115, ?hy115⟩) (by assumption) ?rest115
              case hi115 => simp only [List.getElem?_toArray, List.getElem?_cons_succ, List.getElem?_cons_zero]; rfl
              case hf115 => kernel_rfl
              case hr115 => kernel_rfl
              case hw115 => rfl
              case hy115 => (intro w hSw; (try dsimp only at hSw); go_simp; all_goals (first | done | with_reducible rfl))
              case hQ115 => exact fun _ _ _ h => h
              simp only [Act.put, List.setIfInBounds_toArray, List.set_cons_zero, List.set_cons_succ]
              refine wpAnyH_take (i := 2) (oi := ?oi116) (v := ?v116) ?hi116 (by kernel_rfl) ?hf116 ?hr116 ?hQ116 (Or.inl ⟨?hw116, ?hy116⟩) (by assumption) ?rest116
              case hi116 => simp only [List.getElem?_toArray, List.getElem?_cons_succ, List.getElem?_cons_zero]; rfl
              case hf116 => kernel_rfl
              case hr116 => kernel_rfl
              case hw116 => rfl
              case hy116 => (intro w hSw; (try dsimp only at hSw); go_simp; all_goals (first | done | with_reducible rfl))
              case hQ116 => exact fun _ _ _ h => h
              simp only [Act.put, List.setIfInBounds_toArray, List.set_cons_zero, List.set_cons_succ]
              refine wpAnyH_take (i := 3) (oi := ?oi117) (v := ?v117) ?hi117 (by kernel_rfl) ?hf117 ?hr117 ?hQ117 (Or.inl ⟨?hw117, ?hy117⟩) (by assumption) ?rest117
              case hi117 => simp only [List.getElem?_toArray, List.getElem?_cons_succ, List.getElem?_cons_zero]; rfl
              case hf117 => kernel_rfl
              case hr117 => kernel_rfl
              case hw117 => rfl
              case hy117 => (intro w hSw; (try dsimp only at hSw); go_simp; all_goals (first | done | with_reducible rfl))
              case hQ117 => exact fun _ _ _ h => h
              simp only [Act.put, List.setIfInBounds_toArray, List.set_cons_zero, List.set_cons_succ]
              refine wpAnyH_take (i := 4) (oi := ?oi118) (v := ?v118) ?hi118 (by kernel_rfl) ?hf118 ?hr118 ?hQ118 (Or.inl ⟨?hw118, ?hy118⟩) (by assumption) ?rest118
              case hi118 => simp only [List.getElem?_toArray, List.getElem?_cons_succ, List.getElem?_cons_zero]; rfl
              case hf118 => kernel_rfl
              case hr118 => kernel_rfl
              case hw118 => rfl
              case hy118 => (intro w hSw; (try dsimp only at hSw); go_simp; all_goals (first | done | with_reducible rfl))
              case hQ118 => exact fun _ _ _ h => h
              simp only [Act.put, List.setIfInBounds_toArray, List.set_cons_zero, List.set_cons_succ]
              have HE9 := hid (fun (W : World) (hb : Below wr.heap.size wr W) => And.intro ((hb.cell (p := ⟨b, ob + k * 4, none⟩) hbw).trans c0) (And.intro ((hb.cell (p := ⟨b, ob + k * 4 + 1, none⟩) hbw).trans c1) (And.intro ((hb.cell (p := ⟨b, ob + k * 4 + 2, none⟩) hbw).trans c2) ((hb.cell (p := ⟨b, ob + k * 4 + 3, none⟩) hbw).trans c3'))))
              have HW := hid ((Below.refl wr.heap.size wr).drew)
              refine wpAnyH_ready (rs := [5, 9]) (by kernel_rfl) (by simp) ?_
              refine AllReadyH.cons (o := ?oi119) ?hi119 (fun K hK => ?stepA119) (AllReadyH.cons (o := ?oj119) ?hj119 (fun K hK => ?stepB119) AllReadyH.nil)
              case hi119 => simp only [List.getElem?_toArray, List.getElem?_cons_succ, List.getElem?_cons_zero]; rfl
              case hj119 => simp only [List.getElem?_toArray, List.getElem?_cons_succ, List.getElem?_cons_zero]; rfl
              all_goals rw [if_pos (by rfl)]
              all_goals go_simp
              · go_at_call 28
                refine (C5.out _ _ (BufR.at_ ⟨_, rfl, HE.out⟩ HR.out.dr.right.right.left HEF.out)).mono ?_
                rintro e w5 ⟨u5, rs5, u6, rs6, rfl, hs5, hs6, hr5, hb5⟩
                obtain ⟨A6, n6, c6, rfl⟩ := hs5.form hr5.left
                obtain ⟨A7, n7, c7, rfl⟩ := hs6.form hr5.right
                obtain ⟨uu, huu, hs5'⟩ := hs5
                have huu' : uu = .slice A6 n6 c6 := by simp at huu; exact huu.symm
                subst huu'
                have HS5 := hid hs5'
                have HS6 := hid hs6
                clear huu hs5' hs6
                have h9 := (HR.out.dr.newer hb5 hr5 HB.out.size)
                rw [List.append_assoc] at h9
                have HR5 := hid (show Rows w5 w.heap.size ([bxRow 29 3 bo [.int .i64 em, .int .i64 ek, .slice A3 n3 c3]] ++ ([bxRow 29 3 (w.heap.size + 1) [.int .i64 0, .int .i64 0, .slice none 0 0]] ++ (rs5 ++ (rs6 ++ nestRows 27 (.slice A5 m c5) es)))) from h9.re6 [2, 3, 0, 1, 5] rfl)
                have HB5 := hid (HB.out.drew.trans (hb5.mono HB.out.size))
                have HW5 := hid (HW.out.trans hb5)
                clear h9 hr5 hb5 d0 d1 d2 c0 c1 c2 c3' C5
                have q9 := hid (And.intro (And.intro (Rows.bc HR5.out.left 0 rfl).1 (And.intro (Rows.bc HR5.out.left 1 rfl).1 (Rows.bc HR5.out.left 2 rfl).1)) (HE9.out _ HW5.out))
                refine hK.out _ _ q9.out (fun hS9 => ?_)
                refine wpAnyH_take (i := 6) (oi := ?oi120) (v := ?v120) ?hi120 (by kernel_rfl) ?hf120 ?hr120 ?hQ120 (Or.inl ⟨?hw120, ?hy120⟩) (by assumption) ?rest120
                case hi120 => simp only [List.getElem?_toArray, List.getElem?_cons_succ, List.getElem?_cons_zero]; rfl
                case hf120 => kernel_rfl
                case hr120 => kernel_rfl
                case hw120 => rfl
                case hy120 => (intro w hSw; (try dsimp only at hSw); go_simp; all_goals (first | done | with_reducible rfl))
                case hQ120 => exact fun _ _ _ h => h
                simp only [Act.put, List.setIfInBounds_toArray, List.set_cons_zero, List.set_cons_succ]
                refine wpAnyH_take (i := 7) (oi := ?oi121) (v := ?v121) ?hi121 (by kernel_rfl) ?hf121 ?hr121 ?hQ121 (Or.inl ⟨?hw121, ?hy121⟩) (by assumption) ?rest121
                case hi121 => simp only [List.getElem?_toArray, List.getElem?_cons_succ, List.getElem?_cons_zero]; rfl
                case hf121 => kernel_rfl
                case hr121 => kernel_rfl
                case hw121 => rfl
                case hy121 => (intro w hSw; (try dsimp only at hSw); go_simp; all_goals (first | done | with_reducible rfl))
                case hQ121 => exact fun _ _ _ h => h
                simp only [Act.put, List.setIfInBounds_toArray, List.set_cons_zero, List.set_cons_succ]
                refine wpAnyH_take (i := 8) (oi := ?oi122) (v := ?v122) ?hi122 (by kernel_rfl) ?hf122 ?hr122 ?hQ122 (Or.inl ⟨?hw122, ?hy122⟩) (by assumption) ?rest122
                case hi122 => simp only [List.getElem?_toArray, List.getElem?_cons_succ, List.getElem?_cons_zero]; rfl
                case hf122 => kernel_rfl
                case hr122 => kernel_rfl
                case hw122 => rfl
                case hy122 => (intro w hSw; (try dsimp only at hSw); go_simp; all_goals (first | done | with_reducible rfl))
                case hQ122 => exact fun _ _ _ h => h
                simp only [Act.put, List.setIfInBounds_toArray, List.set_cons_zero, List.set_cons_succ]
                refine wpAnyH_ready (rs := [9]) (by kernel_rfl) (by simp) ?_
                refine AllReadyH.cons (o := ?oi123) ?hi123 (fun K hK => ?step123) AllReadyH.nil
                case hi123 => simp only [List.getElem?_toArray, List.getElem?_cons_succ, List.getElem?_cons_zero]; rfl
                rw [if_pos (by rfl)]
                go_simp
                have HR6 := hid (HR5.out.bx HB5.out.size #[.int .i64 0, .int .i64 0, .slice none 0 0] 29 3 rfl)
                have HB6 := hid (HB5.out.alloc HB5.out.size (.cells #[.int .i64 0, .int .i64 0, .slice none 0 0] 29))
                have HW6 := hid (HW5.out.alloc HW5.out.size (.cells #[.int .i64 0, .int .i64 0, .slice none 0 0] 29))
                have hbn : wr.heap.size ≤ w5.heap.size := HW5.out.size
                clear q9
                have q9 := hid (And.intro (And.intro (Rows.bc HR6.out.right.left 0 rfl).1 (And.intro (Rows.bc HR6.out.right.left 1 rfl).1 (Rows.bc HR6.out.right.left 2 rfl).1)) (HE9.out _ HW6.out))
                refine hK.out _ _ q9.out (fun hS9 => ?_)
                generalize w5.alloc (.cells #[.int .i64 0, .int .i64 0, .slice none 0 0] 29) = w6 at *
                generalize w5.heap.size = bn at *
                obtain ⟨z0c, z0, _⟩ := Rows.bcell2 (pre := []) (q := 0) HR6.out rfl
                obtain ⟨z1c, z1, _⟩ := Rows.bcell2 (pre := []) (q := 1) HR6.out rfl
                obtain ⟨z2c, z2, _⟩ := Rows.bcell2 (pre := []) (q := 2) HR6.out rfl
                refine wpAnyH_ready (rs := [10]) (by kernel_rfl) (by simp) ?_
                refine AllReadyH.cons (o := ?oi124) ?hi124 (fun K hK => ?step124) AllReadyH.nil
                case hi124 => simp only [List.getElem?_toArray, List.getElem?_cons_succ, List.getElem?_cons_zero]; rfl
                rw [if_pos (by rfl)]
                go_simp
                have ne1 : bn ≠ bo := by omega
                have ne2 : bn ≠ b := by omega
                have far : ∀ (W : World) (p : Addr) (q' : Nat) (u u' : Value), bn ≠ p.block → W.cell? p = some u → (W.setCell ⟨bn, q', none⟩ u').cell? p = some u := fun W p q' u u' hn h => (World.cell?_setCell_far _ _ _ _ hn).trans h
                have q8 := q9.out
                refine hK.out _ _ ⟨⟨far _ _ _ _ _ ne1 (far _ _ _ _ _ ne1 (far _ _ _ _ _ ne1 q8.1.1)), far _ _ _ _ _ ne1 (far _ _ _ _ _ ne1 (far _ _ _ _ _ ne1 q8.1.2.1)), far _ _ _ _ _ ne1 (far _ _ _ _ _ ne1 (far _ _ _ _ _ ne1 q8.1.2.2))⟩, far _ _ _ _ _ ne2 (far _ _ _ _ _ ne2 (far _ _ _ _ _ ne2 q8.2.1)), far _ _ _ _ _ ne2 (far _ _ _ _ _ ne2 (far _ _ _ _ _ ne2 q8.2.2.1)), far _ _ _ _ _ ne2 (far _ _ _ _ _ ne2 (far _ _ _ _ _ ne2 q8.2.2.2.1)), far _ _ _ _ _ ne2 (far _ _ _ _ _ ne2 (far _ _ _ _ _ ne2 q8.2.2.2.2))⟩ (fun hS9 => ?_)
                refine wpAnyH_take (i := 11) (oi := ?oi125) (v := ?v125) ?hi125 (by kernel_rfl) ?hf125 ?hr125 ?hQ125 (Or.inl ⟨?hw125, ?hy125⟩) (by assumption) ?rest125
                case hi125 => simp only [List.getElem?_toArray, List.getElem?_cons_succ, List.getElem?_cons_zero]; rfl
                case hf125 => kernel_rfl
                case hr125 => kernel_rfl
                case hw125 => rfl
                case hy125 => (intro w hSw; (try dsimp only at hSw); go_simp; all_goals (first | done | with_reducible rfl))
                case hQ125 => exact fun _ _ _ h => h
                simp only [Act.put, List.setIfInBounds_toArray, List.set_cons_zero, List.set_cons_succ]
                refine wpAnyH_done (by kernel_rfl) ?_ _
                clear far hS hS9 q8 q9 z0c z1c z2c z0 z1 z2
                have hbn2 : w.heap.size ≤ bn := by omega
                have Y0 := Rows.boxset (pre := []) (j := 0) (u := .int .i64 em) HR6.out
                have Y1 := Rows.boxset (pre := []) (j := 1) (u := .int .i64 ek) Y0
                have Y2 := hid (Rows.boxset (pre := []) (j := 2) (u := .slice A6 n6 c6) Y1)
                clear Y0 Y1
                go_wp2_with fail
                go_meet
                case rel => exact ⟨bn, n6, n7, A6, c6, A7, c7, rs5, rs6, rfl, rfl, hbn, HS5.out, HS6.out, Y2.out, ((HB6.out.setCell (p := ⟨_, 0, none⟩) hbn2 (.int .i64 em)).setCell (p := ⟨_, 1, none⟩) hbn2 (.int .i64 ek)).setCell (p := ⟨_, 2, none⟩) hbn2 (.slice A6 n6 c6)⟩
              · have HR4 := hid (HR.out.dr.bx HB.out.size #[.int .i64 0, .int .i64 0, .slice none 0 0] 29 3 rfl)
                have HB4 := hid (HB.out.drew.alloc HB.out.size (.cells #[.int .i64 0, .int .i64 0, .slice none 0 0] 29))
                have HW4 := hid (HW.out.alloc HW.out.size (.cells #[.int .i64 0, .int .i64 0, .slice none 0 0] 29))
                simp only [show wr.drew.heap.size = wr.heap.size from rfl] at HR4 HB4 HW4
                clear d0 d1 d2 c0 c1 c2 c3'
                have q9 := hid (And.intro (And.intro (Rows.bc HR4.out.right.left 0 rfl).1 (And.intro (Rows.bc HR4.out.right.left 1 rfl).1 (Rows.bc HR4.out.right.left 2 rfl).1)) (HE9.out _ HW4.out))
                refine hK.out _ _ q9.out (fun hS9 => ?_)
                refine wpAnyH_ready (rs := [5]) (by kernel_rfl) (by simp) ?_
                refine AllReadyH.cons (o := ?oi126) ?hi126 (fun K hK => ?step126) AllReadyH.nil
                case hi126 => simp only [List.getElem?_toArray, List.getElem?_cons_succ, List.getElem?_cons_zero]; rfl
                rw [if_pos (by rfl)]
                go_simp
                go_at_call 28
                refine (C5.out _ _ (BufR.at_ ⟨_, rfl, HE.out⟩ HR4.out.right.right.right.left HEF.out)).mono ?_
                rintro e w6 ⟨u5, rs5, u6, rs6, rfl, hs5, hs6, hr5, hb5⟩
                obtain ⟨A6, n6, c6, rfl⟩ := hs5.form hr5.left
                obtain ⟨A7, n7, c7, rfl⟩ := hs6.form hr5.right
                obtain ⟨uu, huu, hs5'⟩ := hs5
                have huu' : uu = .slice A6 n6 c6 := by simp at huu; exact huu.symm
                subst huu'
                have HS5 := hid hs5'
                have HS6 := hid hs6
                clear huu hs5' hs6
                have h9 := (HR4.out.newer hb5 hr5 HB4.out.size)
                rw [List.append_assoc] at h9
                have HR6 := hid (show Rows w6 w.heap.size ([bxRow 29 3 wr.heap.size [.int .i64 0, .int .i64 0, .slice none 0 0]] ++ ([bxRow 29 3 bo [.int .i64 em, .int .i64 ek, .slice A3 n3 c3]] ++ ([bxRow 29 3 (w.heap.size + 1) [.int .i64 0, .int .i64 0, .slice none 0 0]] ++ (rs5 ++ (rs6 ++ nestRows 27 (.slice A5 m c5) es))))) from h9.re7 [2, 3, 4, 0, 1, 6] rfl)
                have HB6 := hid (HB4.out.trans (hb5.mono HB4.out.size))
                have HW6 := hid (HW4.out.trans (hb5.mono HW4.out.size))
                have hbn : wr.heap.size ≤ wr.heap.size := Nat.le_refl _
                clear h9 hr5 hb5 C5 q9
                have q9 := hid (And.intro (And.intro (Rows.bc HR6.out.right.left 0 rfl).1 (And.intro (Rows.bc HR6.out.right.left 1 rfl).1 (Rows.bc HR6.out.right.left 2 rfl).1)) (HE9.out _ HW6.out))
                refine hK.out _ _ q9.out (fun hS9 => ?_)
                refine wpAnyH_take (i := 6) (oi := ?oi127) (v := ?v127) ?hi127 (by kernel_rfl) ?hf127 ?hr127 ?hQ127 (Or.inl ⟨?hw127, ?hy127⟩) (by assumption) ?rest127
                case hi127 => simp only [List.getElem?_toArray, List.getElem?_cons_succ, List.getElem?_cons_zero]; rfl
                case hf127 => kernel_rfl
                case hr127 => kernel_rfl
                case hw127 => rfl
                case hy127 => (intro w hSw; (try dsimp only at hSw); go_simp; all_goals (first | done | with_reducible rfl))
                case hQ127 => exact fun _ _ _ h => h
                simp only [Act.put, List.setIfInBounds_toArray, List.set_cons_zero, List.set_cons_succ]
                refine wpAnyH_take (i := 7) (oi := ?oi128) (v := ?v128) ?hi128 (by kernel_rfl) ?hf128 ?hr128 ?hQ128 (Or.inl ⟨?hw128, ?hy128⟩) (by assumption) ?rest128
                case hi128 => simp only [List.getElem?_toArray, List.getElem?_cons_succ, List.getElem?_cons_zero]; rfl
                case hf128 => kernel_rfl
                case hr128 => kernel_rfl
                case hw128 => rfl
                case hy128 => (intro w hSw; (try dsimp only at hSw); go_simp; all_goals (first | done | with_reducible rfl))
                case hQ128 => exact fun _ _ _ h => h
                simp only [Act.put, List.setIfInBounds_toArray, List.set_cons_zero, List.set_cons_succ]
                refine wpAnyH_take (i := 8) (oi := ?oi129) (v := ?v129) ?hi129 (by kernel_rfl) ?hf129 ?hr129 ?hQ129 (Or.inl ⟨?hw129, ?hy129⟩) (by assumption) ?rest129
                case hi129 => simp only [List.getElem?_toArray, List.getElem?_cons_succ, List.getElem?_cons_zero]; rfl
                case hf129 => kernel_rfl
                case hr129 => kernel_rfl
                case hw129 => rfl
                case hy129 => (intro w hSw; (try dsimp only at hSw); go_simp; all_goals (first | done | with_reducible rfl))
                case hQ129 => exact fun _ _ _ h => h
                simp only [Act.put, List.setIfInBounds_toArray, List.set_cons_zero, List.set_cons_succ]
                generalize hbnv : wr.heap.size = bn at *
                obtain ⟨z0c, z0, _⟩ := Rows.bcell2 (pre := []) (q := 0) HR6.out rfl
                obtain ⟨z1c, z1, _⟩ := Rows.bcell2 (pre := []) (q := 1) HR6.out rfl
                obtain ⟨z2c, z2, _⟩ := Rows.bcell2 (pre := []) (q := 2) HR6.out rfl
                refine wpAnyH_ready (rs := [10]) (by kernel_rfl) (by simp) ?_
                refine AllReadyH.cons (o := ?oi130) ?hi130 (fun K hK => ?step130) AllReadyH.nil
                case hi130 => simp only [List.getElem?_toArray, List.getElem?_cons_succ, List.getElem?_cons_zero]; rfl
                rw [if_pos (by rfl)]
                go_simp
                have ne1 : bn ≠ bo := by omega
                have ne2 : bn ≠ b := by omega
                have far : ∀ (W : World) (p : Addr) (q' : Nat) (u u' : Value), bn ≠ p.block → W.cell? p = some u → (W.setCell ⟨bn, q', none⟩ u').cell? p = some u := fun W p q' u u' hn h => (World.cell?_setCell_far _ _ _ _ hn).trans h
                have q8 := q9.out
                refine hK.out _ _ ⟨⟨far _ _ _ _ _ ne1 (far _ _ _ _ _ ne1 (far _ _ _ _ _ ne1 q8.1.1)), far _ _ _ _ _ ne1 (far _ _ _ _ _ ne1 (far _ _ _ _ _ ne1 q8.1.2.1)), far _ _ _ _ _ ne1 (far _ _ _ _ _ ne1 (far _ _ _ _ _ ne1 q8.1.2.2))⟩, far _ _ _ _ _ ne2 (far _ _ _ _ _ ne2 (far _ _ _ _ _ ne2 q8.2.1)), far _ _ _ _ _ ne2 (far _ _ _ _ _ ne2 (far _ _ _ _ _ ne2 q8.2.2.1)), far _ _ _ _ _ ne2 (far _ _ _ _ _ ne2 (far _ _ _ _ _ ne2 q8.2.2.2.1)), far _ _ _ _ _ ne2 (far _ _ _ _ _ ne2 (far _ _ _ _ _ ne2 q8.2.2.2.2))⟩ (fun hS9 => ?_)
                refine wpAnyH_take (i := 11) (oi := ?oi131) (v := ?v131) ?hi131 (by kernel_rfl) ?hf131 ?hr131 ?hQ131 (Or.inl ⟨?hw131, ?hy131⟩) (by assumption) ?rest131
                case hi131 => simp only [List.getElem?_toArray, List.getElem?_cons_succ, List.getElem?_cons_zero]; rfl
                case hf131 => kernel_rfl
                case hr131 => kernel_rfl
                case hw131 => rfl
                case hy131 => (intro w hSw; (try dsimp only at hSw); go_simp; all_goals (first | done | with_reducible rfl))
                case hQ131 => exact fun _ _ _ h => h
                simp only [Act.put, List.setIfInBounds_toArray, List.set_cons_zero, List.set_cons_succ]
                refine wpAnyH_done (by kernel_rfl) ?_ _
                clear far hS hS9 q8 q9 z0c z1c z2c z0 z1 z2
                have hbn2 : w.heap.size ≤ bn := by omega
                have Y0 := Rows.boxset (pre := []) (j := 0) (u := .int .i64 em) HR6.out
                have Y1 := Rows.boxset (pre := []) (j := 1) (u := .int .i64 ek) Y0
                have Y2 := hid (Rows.boxset (pre := []) (j := 2) (u := .slice A6 n6 c6) Y1)
                clear Y0 Y1
                go_wp2_with fail
                go_meet
                case rel => exact ⟨bn, n6, n7, A6, c6, A7, c7, rs5, rs6, rfl, rfl, hbn, HS5.out, HS6.out, Y2.out, ((HB6.out.setCell (p := ⟨_, 0, none⟩) hbn2 (.int .i64 em)).setCell (p := ⟨_, 1, none⟩) hbn2 (.int .i64 ek)).setCell (p := ⟨_, 2, none⟩) hbn2 (.slice A6 n6 c6)⟩
            case rest =>
              obtain ⟨bn, n6, n7, A6, c6, A7, c7, rs5, rs6, rfl, rfl, hbn, HS5, HS6, HRw, HBw⟩ := hcut
              rename World => wc
              have hn7 := hid (RecsR_count HS6.out HRw.out.right.right.right.right.left)
              have hnb : bn ≠ bo := by omega
              clear HR HB HE C5 d0 d1 d2 c0 c1 c2 c3' hwb hbw
              rcases Nat.eq_zero_or_pos n7 with h0 | h0
              · subst h0
                have HSO := hid (show runOd ⟨em, ek, rc⟩ (l.take (k + 1)) = runOd ⟨em, ek, rc⟩ (l.take k) by rw [HST2.out, if_pos hn7.out.symm, List.append_nil])
                clear HST2
                obtain ⟨o0, _, _⟩ := Rows.bcell2 (pre := []) (q := 0) HRw.out rfl
                obtain ⟨o1, _, _⟩ := Rows.bcell2 (pre := []) (q := 1) HRw.out rfl
                obtain ⟨o2, _, _⟩ := Rows.bcell2 (pre := []) (q := 2) HRw.out rfl
                obtain ⟨r0, x0, _⟩ := Rows.bcell2 (pre := [_]) (q := 0) HRw.out rfl
                obtain ⟨r1, x1, _⟩ := Rows.bcell2 (pre := [_]) (q := 1) HRw.out rfl
                obtain ⟨r2, x2, _⟩ := Rows.bcell2 (pre := [_]) (q := 2) HRw.out rfl
                go_wp2_with fail
                have Y2 := Rows.boxset (pre := [_]) (j := 0) (u := .int .i64 em) HRw.out
                have Y3 := Rows.boxset (pre := [_]) (j := 1) (u := .int .i64 ek) Y2
                have Y4 := hid (Rows.boxset (pre := [_]) (j := 2) (u := .slice A6 n6 c6) Y3)
                have HB7 := hid (((HBw.out.setCell (p := ⟨bo, 0, none⟩) hbo2 (.int .i64 em)).setCell (p := ⟨bo, 1, none⟩) hbo2 (.int .i64 ek)).setCell (p := ⟨bo, 2, none⟩) hbo2 (.slice A6 n6 c6))
                clear Y2 Y3 HRw HBw
                have HR7 := hid (Rows.right (a := [bxRow 29 3 bn [.int .i64 em, .int .i64 ek, .slice A6 n6 c6]]) (b := [bxRow 29 3 bo [.int .i64 em, .int .i64 ek, .slice A6 n6 c6]] ++ ([bxRow 29 3 (w.heap.size + 1) [.int .i64 0, .int .i64 0, .slice none 0 0]] ++ (rs5 ++ (rs6 ++ nestRows 27 (.slice A5 m c5) es)))) Y4.out)
                go_roundw
                case rel => exact ⟨k + 1, m, n6, A6, c6, A5, c5, es, rs5, el, by go_num, rfl, by omega, HST1.out, ⟨HN.out.1, by rw [HSO.out]; exact HN.out.2⟩, HS5.out, Rows.re5 (show Rows _ w.heap.size ([bxRow 29 3 bo [.int .i64 em, .int .i64 ek, .slice A6 n6 c6]] ++ ([bxRow 29 3 (w.heap.size + 1) [.int .i64 0, .int .i64 0, .slice none 0 0]] ++ (rs5 ++ (rs6 ++ nestRows 27 (.slice A5 m c5) es)))) from HR7.out) [0, 1, 2, 4] rfl, HB7.out⟩
                case measure => simp [intOf]; omega
              · have hpos : (0 : Int) < (n7 : Int) := by omega
                have HSO := hid (show runOd ⟨em, ek, rc⟩ (l.take (k + 1)) = runOd ⟨em, ek, rc⟩ (l.take k) ++ [Y] by rw [HST2.out, if_neg (by have := hn7.out; omega)])
                clear HST2 h0
                obtain ⟨A8, c8, w8, hrun, hb8, hR8, _⟩ := batch_app1 (u := .slice A7 n7 c7) (rs := rs6) (rest := [bxRow 29 3 bn [.int .i64 em, .int .i64 ek, .slice A6 n6 c6]] ++ ([bxRow 29 3 bo [.int .i64 em, .int .i64 ek, .slice A3 n3 c3]] ++ ([bxRow 29 3 (w.heap.size + 1) [.int .i64 0, .int .i64 0, .slice none 0 0]] ++ rs5))) (HRw.out.re6 [5, 4, 0, 1, 2, 3] rfl) HN.out.1 rfl HBw.out.size (by omega) 27
                have HRun := hid hrun
                have HR8 := hid (show Rows w8 w.heap.size ([bxRow 29 3 bn [.int .i64 em, .int .i64 ek, .slice A6 n6 c6]] ++ ([bxRow 29 3 bo [.int .i64 em, .int .i64 ek, .slice A3 n3 c3]] ++ ([bxRow 29 3 (w.heap.size + 1) [.int .i64 0, .int .i64 0, .slice none 0 0]] ++ (rs5 ++ nestRows 27 (.slice A8 (m + 1) c8) (es ++ [(.slice A7 n7 c7, rs6)]))))) from hR8.re5 [1, 2, 3, 4, 0] rfl)
                have HB8 := hid (HBw.out.trans hb8)
                clear hrun hb8 hR8 HRw HBw
                obtain ⟨o0, _, _⟩ := Rows.bcell2 (pre := []) (q := 0) HR8.out rfl
                obtain ⟨o1, _, _⟩ := Rows.bcell2 (pre := []) (q := 1) HR8.out rfl
                obtain ⟨o2, _, _⟩ := Rows.bcell2 (pre := []) (q := 2) HR8.out rfl
                obtain ⟨r0, x0, _⟩ := Rows.bcell2 (pre := [_]) (q := 0) HR8.out rfl
                obtain ⟨r1, x1, _⟩ := Rows.bcell2 (pre := [_]) (q := 1) HR8.out rfl
                obtain ⟨r2, x2, _⟩ := Rows.bcell2 (pre := [_]) (q := 2) HR8.out rfl
                go_wp2_with (at_builtin; refine wpList_runB rfl rfl (by rfl) (by rfl) HRun.out ?_)
                have Y2 := Rows.boxset (pre := [_]) (j := 0) (u := .int .i64 em) HR8.out
                have Y3 := Rows.boxset (pre := [_]) (j := 1) (u := .int .i64 ek) Y2
                have Y4 := hid (Rows.boxset (pre := [_]) (j := 2) (u := .slice A6 n6 c6) Y3)
                have HB7 := hid (((HB8.out.setCell (p := ⟨bo, 0, none⟩) hbo2 (.int .i64 em)).setCell (p := ⟨bo, 1, none⟩) hbo2 (.int .i64 ek)).setCell (p := ⟨bo, 2, none⟩) hbo2 (.slice A6 n6 c6))
                clear Y2 Y3
                have HR7 := hid (Rows.right (a := [bxRow 29 3 bn [.int .i64 em, .int .i64 ek, .slice A6 n6 c6]]) (b := [bxRow 29 3 bo [.int .i64 em, .int .i64 ek, .slice A6 n6 c6]] ++ ([bxRow 29 3 (w.heap.size + 1) [.int .i64 0, .int .i64 0, .slice none 0 0]] ++ (rs5 ++ nestRows 27 (.slice A8 (m + 1) c8) (es ++ [(.slice A7 n7 c7, rs6)])))) Y4.out)
                go_roundw
                case rel => exact ⟨k + 1, m + 1, n6, A6, c6, A8, c8, _, rs5, el, by go_num, rfl, by omega, HST1.out, ⟨by rw [List.length_append, HN.out.1]; rfl, by rw [HSO.out]; exact HN.out.2.snoc HS6.out⟩, HS5.out, HR7.out, HB7.out⟩
                case measure => simp [intOf]; omega
          · obtain rfl : k = nl := by omega
            have ht : l.take k = l := List.take_of_length_le (by rw [hll.out]; exact Nat.le_refl _)
            have HGO := HG.out
            have HNO := HN.out
            rw [ht] at HGO HNO
            obtain rfl : X0 = ⟨rm, lv, x⟩ := HX0.out.trans HGO
            have hX1 := HX1.out
            subst hX1
            have HN2 := hid HNO
            clear ht HGO HNO
            obtain ⟨o0, _, _⟩ := Rows.bcell2 (pre := []) (q := 0) HR.out rfl
            obtain ⟨o1, _, _⟩ := Rows.bcell2 (pre := []) (q := 1) HR.out rfl
            obtain ⟨o2, _, _⟩ := Rows.bcell2 (pre := []) (q := 2) HR.out rfl
            obtain ⟨r0, x0, _⟩ := Rows.bcell2 (pre := [_]) (q := 0) HR.out rfl
            obtain ⟨r1, x1, _⟩ := Rows.bcell2 (pre := [_]) (q := 1) HR.out rfl
            obtain ⟨r2, x2, _⟩ := Rows.bcell2 (pre := [_]) (q := 2) HR.out rfl
            go_wp2_with fail
            have Y2 := Rows.boxset (pre := [_]) (j := 0) (u := .int .i64 rm) HR.out
            have Y3 := Rows.boxset (pre := [_]) (j := 1) (u := .int .i64 lv) Y2
            have Y4 := Rows.boxset (pre := [_]) (j := 2) (u := .slice A3 n3 c3) Y3
            have f0 := (Rows.bcell2 (pre := [_]) (q := 0) Y4 rfl).1
            have f1 := (Rows.bcell2 (pre := [_]) (q := 1) Y4 rfl).1
            have f2 := (Rows.bcell2 (pre := [_]) (q := 2) Y4 rfl).1
            refine bodyPost_ret (v := .tuple #[.agg #[.int .i64 rm, .int .i64 lv, .slice A3 n3 c3], .slice A5 m c5, .bool true]) (by simp [results, Try.results7, go_sem, f0, f1, f2]) rfl ?_
            exact ⟨_, rs3, _, _, rfl, ⟨_, rfl, HE.out⟩, HN2.out.2.toR, (Rows.right Y4), ((HB.out.setCell (p := ⟨w.heap.size + 1, 0, none⟩) hbr (.int .i64 rm)).setCell (p := ⟨w.heap.size + 1, 1, none⟩) hbr (.int .i64 lv)).setCell (p := ⟨w.heap.size + 1, 2, none⟩) hbr (.slice A3 n3 c3)⟩
end Go.Proofs.Ytfjpfdmlcgkfeaa
