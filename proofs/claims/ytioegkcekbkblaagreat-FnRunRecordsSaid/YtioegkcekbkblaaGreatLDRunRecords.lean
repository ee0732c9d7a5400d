/-
  WALK: the law FnRunRecords. By gen_sr.py.
-/
import Derived.Test.YtioegkcekbkblaaGreatSR2
import Derived.Test.YtioegkcekbkblaaGreatE26
import Derived.Test.YtioegkcekbkblaaGreatSN10
import Derived.Test.YtioegkcekbkblaaGreatEqSent
import Derived.Test.YtioegkcekbkblaaGreatLookI
namespace Go.Proofs.YtioegkcekbkblaaGreat
open Go.RowKit Go.Proofs.YtioegkcekbkblaaGreat.Nm
set_option linter.unusedSimpArgs false
set_option linter.unusedVariables false

set_option maxHeartbeats 8000000 in
set_option maxRecDepth 100000 in
theorem walk_FnRunRecords (a0 : Option Addr) (len0 cap0 : Nat) (z0 : List Int) (w : World) (w0 : IsRow .u8 w a0 len0 cap0 z0) :
    Calls Tryz.prog 7 #[.slice a0 len0 cap0] w (BoolPost w true) := by
  have hb0 := w0.leT
  by_cases h1 : (1048576 : Int) < (len0 : Int)
  · go_enter Tryz.func7, Tryz.ntmps7
    go_wp2_with fail
    go_ret
    exact ⟨rfl, Below.refl _ _⟩
  have DR := hid (drawRunRecords_c a0 len0 cap0 z0 w w0)
  clear w0
  go_enter Tryz.func7, Tryz.ntmps7
  go_wp2_with fail
  refine DR.out.mono ?_
  rintro e w1 ⟨v, rs, L, H, q, v2, l, rfl, hs, hsm, hl25, hlf, ho, hr, hb⟩
  obtain ⟨A1, n1, k1, A2, n2, k2, rfl, hn1, hn2⟩ := hs.form_ hr
  obtain ⟨Ar, cr, rfl, hcr, hmr⟩ := (Sl.of_own ho).form
  have hAr : (Ar = none ∧ l.length = 0 ∧ cr = 0) ∨ ∃ g, Ar = some ⟨g, 0, none⟩ := by
    rcases ho.2 with ⟨h7, h8⟩ | ⟨g, cap, cur, h8, _⟩
    · left; simp at h7; exact ⟨h7.1, by rw [h7.2.1]; rfl, h7.2.2⟩
    · right; simp at h8; exact ⟨g, h8.1⟩
  unfold maxLen at hmr
  have hd := sm_fit hsm (by omega)
  have TI0 := hs.at_ hr hd
  have hbx : Below w1.heap.size w1 (w1.alloc (.cells #[.slice A1 n1 k1, .slice A2 n2 k2, .int .i64 q] 26)) := (Below.refl _ _).alloc (Nat.le_refl _) _
  have TI := hid (TI0.below hbx (Nat.le_refl _))
  have RI := hid (show Rs (w1.alloc (.cells #[.slice A1 n1 k1, .slice A2 n2 k2, .int .i64 q] 26)) w1.heap.size l.length (.slice Ar l.length cr) l from ⟨(Sl.of_own ho).below hbx (Nat.le_refl _), fun x hx => by have := hlf x hx; unfold rcellsFit maxTxt; omega⟩)
  have KB := hid (Blk.new w1 #[.slice A1 n1 k1, .slice A2 n2 k2, .int .i64 q] 26)
  have HB := hid (hb.trans (hbx.mono hb.size))
  have hl1 : w1.heap.size < (w1.alloc (.cells #[.slice A1 n1 k1, .slice A2 n2 k2, .int .i64 q] 26)).heap.size := by simp
  replace hd := hid hd
  replace hlf := hid hlf
  clear hs hr hb hn1 hn2 hsm TI0 hbx DR ho
  go_wp2_with fail
  generalize hbb : w1.heap.size = bb at *
  generalize w1.alloc (.cells #[.slice A1 n1 k1, .slice A2 n2 k2, .int .i64 q] 26) = w2 at *
  clear hbb
  have HW := hid (Below.refl w2.heap.size w2)
  have TT := hid (fun (W : World) (hW : Below w2.heap.size w2 W) => (And.intro (TI.out.below hW (Nat.le_of_lt hl1)) (Nat.le_trans (Nat.le_of_lt hl1) hW.size)))
  have RR := hid (fun (W : World) (hW : Below w2.heap.size w2 W) => RI.out.below hW (Nat.le_of_lt hl1))
  obtain ⟨⟨d0, _⟩, ⟨d1, _⟩, ⟨d2, _⟩⟩ := (And.intro ((KB.out.to HW.out).2 0 _ rfl) (And.intro ((KB.out.to HW.out).2 1 _ rfl) ((KB.out.to HW.out).2 2 _ rfl)))
  have CI := hid (fun (W : World) (hW : Below w2.heap.size w2 W) => implRunRecords_c (TT.out W hW).1 (RR.out W hW) (TT.out W hW).2)
  have CS := hid (fun (W : World) (hW : Below w2.heap.size w2 W) => specRunRecords_c (TT.out W hW).1 (RR.out W hW) (TT.out W hW).2)
  have CT := hid (fun (W : World) (hW : Below w2.heap.size w2 W) => implValidTreeX_c (TT.out W hW).1 (TT.out W hW).2)
  have CV := hid (fun (W : World) (hW : Below w2.heap.size w2 W) => implValidRecords_c _ l.length bb l W (RR.out W hW) (TT.out W hW).2)
  obtain ⟨X, hX⟩ : ∃ X, runX L H q l = X := ⟨_, rfl⟩
  have hX7 : X.length ≤ 750 := by
    rw [← hX]; unfold runX
    split
    · exact Nat.le_trans (run_len L H q l) (by omega)
    · simp
  rw [hX] at CI CS
  have EQ := hid (fun (hr : recsOk l = true) => (show runX L H q (l.take (l.length / 2)) ++ runX L H q (l.drop (l.length / 2)) = X by rw [← hX]; exact run_cut hr _))
  have CJ := hid (fun (k n : Nat) (A : Option Addr) (c : Nat) (m : List Rec) (W : World) (hW : Below w2.heap.size w2 W) (h : Rs W bb n (.slice A n c) m) => implRunRecords_c (TT.out W hW).1 h (TT.out W hW).2)
  generalize hok : treeOk L H q = ok at *
  generalize hrok : recsOk l = rok at *
  replace hok := hid hok
  replace hrok := hid hrok
  replace hX := hid hX
  go_wp2_with fail
  refine (CI.out _ HW.out).mono ?_
  rintro e w3 ⟨v3, rfl, ho3, hb⟩
  obtain ⟨A3, c3, rfl, hc3, hm3⟩ := (Sl.of_own ho3).form
  unfold maxLen at hm3
  replace HW := hid (HW.out.trans (hb.mono HW.out.size))
  clear hb
  clear d0 d1 d2
  obtain ⟨⟨d0, _⟩, ⟨d1, _⟩, ⟨d2, _⟩⟩ := (And.intro ((KB.out.to HW.out).2 0 _ rfl) (And.intro ((KB.out.to HW.out).2 1 _ rfl) ((KB.out.to HW.out).2 2 _ rfl)))
  have O3 := hid ho3
  have HV := hid (Below.refl w3.heap.size w3)
  clear ho3
  go_wp2_with fail
  refine (CS.out _ HW.out).mono ?_
  rintro e w4 ⟨v4, rfl, ho4, hb⟩
  obtain ⟨A4, c4, rfl, _, _⟩ := (Sl.of_own ho4).form
  have CQ := hid (equalSent_c _ _ X.length w4.heap.size X w4 (((((Sl.of_own O3.out).below HV.out (Nat.le_refl _)).more HV.out.size).below hb (Nat.le_refl _)).more hb.size) (Sl.of_own ho4) (Nat.le_refl _))
  replace HW := hid (HW.out.trans (hb.mono HW.out.size))
  replace HV := hid (HV.out.trans (hb.mono HV.out.size))
  clear hb ho4
  clear d0 d1 d2
  obtain ⟨⟨d0, _⟩, ⟨d1, _⟩, ⟨d2, _⟩⟩ := (And.intro ((KB.out.to HW.out).2 0 _ rfl) (And.intro ((KB.out.to HW.out).2 1 _ rfl) ((KB.out.to HW.out).2 2 _ rfl)))
  go_wp2_with fail
  refine (CQ.out).mono ?_
  rintro e w5 ⟨rfl, hb⟩
  replace HW := hid (HW.out.trans (hb.mono HW.out.size))
  replace HV := hid (HV.out.trans (hb.mono HV.out.size))
  clear hb
  clear d0 d1 d2
  obtain ⟨⟨d0, _⟩, ⟨d1, _⟩, ⟨d2, _⟩⟩ := (And.intro ((KB.out.to HW.out).2 0 _ rfl) (And.intro ((KB.out.to HW.out).2 1 _ rfl) ((KB.out.to HW.out).2 2 _ rfl)))
  clear CQ
  go_wp2_with fail
  refine (CT.out _ HW.out).mono ?_
  rintro e w6 ⟨rfl, hb⟩
  replace HW := hid (HW.out.trans (hb.mono HW.out.size))
  replace HV := hid (HV.out.trans (hb.mono HV.out.size))
  clear hb
  clear d0 d1 d2
  obtain ⟨⟨d0, _⟩, ⟨d1, _⟩, ⟨d2, _⟩⟩ := (And.intro ((KB.out.to HW.out).2 0 _ rfl) (And.intro ((KB.out.to HW.out).2 1 _ rfl) ((KB.out.to HW.out).2 2 _ rfl)))
  cases ok with
  | false =>
    go_wp2_with fail
    refine (CS.out _ HW.out).mono ?_
    rintro e w7 ⟨v7, rfl, ho7, hb⟩
    obtain ⟨A7, c7, rfl, _, _⟩ := (Sl.of_own ho7).form
    have CQ := hid (equalSent_c _ _ X.length w7.heap.size X w7 (((((Sl.of_own O3.out).below HV.out (Nat.le_refl _)).more HV.out.size).below hb (Nat.le_refl _)).more hb.size) (Sl.of_own ho7) (Nat.le_refl _))
    replace HW := hid (HW.out.trans (hb.mono HW.out.size))
    replace HV := hid (HV.out.trans (hb.mono HV.out.size))
    clear hb ho7
    clear d0 d1 d2
    obtain ⟨⟨d0, _⟩, ⟨d1, _⟩, ⟨d2, _⟩⟩ := (And.intro ((KB.out.to HW.out).2 0 _ rfl) (And.intro ((KB.out.to HW.out).2 1 _ rfl) ((KB.out.to HW.out).2 2 _ rfl)))
    go_wp2_with fail
    refine (CQ.out).mono ?_
    rintro e w8 ⟨rfl, hb⟩
    replace HW := hid (HW.out.trans (hb.mono HW.out.size))
    replace HV := hid (HV.out.trans (hb.mono HV.out.size))
    clear hb
    clear d0 d1 d2
    obtain ⟨⟨d0, _⟩, ⟨d1, _⟩, ⟨d2, _⟩⟩ := (And.intro ((KB.out.to HW.out).2 0 _ rfl) (And.intro ((KB.out.to HW.out).2 1 _ rfl) ((KB.out.to HW.out).2 2 _ rfl)))
    clear CQ
    go_wp2_with fail
    go_ret
    exact ⟨rfl, HB.out.trans (HW.out.mono HB.out.size)⟩
  | true =>
    go_wp2_with fail
    refine (CV.out _ HW.out).mono ?_
    rintro e w7 ⟨rfl, hb⟩
    replace HW := hid (HW.out.trans (hb.mono HW.out.size))
    replace HV := hid (HV.out.trans (hb.mono HV.out.size))
    clear hb
    clear d0 d1 d2
    obtain ⟨⟨d0, _⟩, ⟨d1, _⟩, ⟨d2, _⟩⟩ := (And.intro ((KB.out.to HW.out).2 0 _ rfl) (And.intro ((KB.out.to HW.out).2 1 _ rfl) ((KB.out.to HW.out).2 2 _ rfl)))
    cases rok with
    | false =>
      go_wp2_with fail
      refine (CS.out _ HW.out).mono ?_
      rintro e w8 ⟨v8, rfl, ho8, hb⟩
      obtain ⟨A8, c8, rfl, _, _⟩ := (Sl.of_own ho8).form
      have CQ := hid (equalSent_c _ _ X.length w8.heap.size X w8 (((((Sl.of_own O3.out).below HV.out (Nat.le_refl _)).more HV.out.size).below hb (Nat.le_refl _)).more hb.size) (Sl.of_own ho8) (Nat.le_refl _))
      replace HW := hid (HW.out.trans (hb.mono HW.out.size))
      replace HV := hid (HV.out.trans (hb.mono HV.out.size))
      clear hb ho8
      clear d0 d1 d2
      obtain ⟨⟨d0, _⟩, ⟨d1, _⟩, ⟨d2, _⟩⟩ := (And.intro ((KB.out.to HW.out).2 0 _ rfl) (And.intro ((KB.out.to HW.out).2 1 _ rfl) ((KB.out.to HW.out).2 2 _ rfl)))
      go_wp2_with fail
      refine (CQ.out).mono ?_
      rintro e w9 ⟨rfl, hb⟩
      replace HW := hid (HW.out.trans (hb.mono HW.out.size))
      replace HV := hid (HV.out.trans (hb.mono HV.out.size))
      clear hb
      clear d0 d1 d2
      obtain ⟨⟨d0, _⟩, ⟨d1, _⟩, ⟨d2, _⟩⟩ := (And.intro ((KB.out.to HW.out).2 0 _ rfl) (And.intro ((KB.out.to HW.out).2 1 _ rfl) ((KB.out.to HW.out).2 2 _ rfl)))
      clear CQ
      go_wp2_with fail
      go_ret
      exact ⟨rfl, HB.out.trans (HW.out.mono HB.out.size)⟩
    | true =>
      replace EQ := hid (EQ.out (by trivial))
      have hY1 : (runX L H q (l.take (l.length / 2))).length ≤ 750 := by have h9 := congrArg List.length EQ.out; rw [List.length_append] at h9; omega
      have hY2 : (runX L H q (l.drop (l.length / 2))).length ≤ 750 := by have h9 := congrArg List.length EQ.out; rw [List.length_append] at h9; omega
      obtain ⟨i0, hi, hz0, hz1, hz2⟩ := info_parts Tryz.infoSent
      have HI := hid (And.intro hi (And.intro hz0 (And.intro hz1 hz2)))
      clear hi hz0 hz1 hz2
      have HLL := hid (rfl : l.length = l.length)
      have SF := hid (fun (W : World) (hW : Below w7.heap.size w7 W) => (show W.cell? ⟨bb, 0, none⟩ = some (.slice A1 n1 k1) ∧ W.cell? ⟨bb, 1, none⟩ = some (.slice A2 n2 k2) ∧ W.cell? ⟨bb, 2, none⟩ = some (.int .i64 q) from ⟨((KB.out.to (HW.out.trans (hW.mono HW.out.size))).2 0 _ rfl).1, ((KB.out.to (HW.out.trans (hW.mono HW.out.size))).2 1 _ rfl).1, ((KB.out.to (HW.out.trans (hW.mono HW.out.size))).2 2 _ rfl).1⟩))
      have hkc : ((l.length : Int) / 2) = ((l.length / 2 : Nat) : Int) := by omega
      rcases Nat.eq_zero_or_pos l.length with hm0 | hm0
      · have hl0 : l = [] := List.eq_nil_of_length_eq_zero hm0
        subst hl0
        simp only [List.length_nil, List.take_nil, List.drop_nil] at *
        skip
        obtain ⟨Y1, hY1'⟩ : ∃ Y1, runX L H q ([] : List Rec) = Y1 := ⟨_, rfl⟩
        rw [hY1'] at EQ hY1 hY2
        have hk0 : ((0 : Int) / 2) = 0 := by decide
        rcases hAr with ⟨hA, _, hc⟩ | ⟨g, hA⟩
        · subst hA hc
          have HT1 := hid (fun (W : World) (hW : Below w7.heap.size w7 W) => (show Calls Tryz.prog 25 #[.agg #[.slice A1 n1 k1, .slice A2 n2 k2, .int .i64 q], .slice none 0 0] W (RowPost W 41 6 Y1.length (Y1.flatMap sncells)) from by have h9 := CJ.out 0 0 none 0 [] W (HW.out.trans (hW.mono HW.out.size)) ⟨⟨rfl, _, _, rfl, Nat.zero_le _, by unfold maxLen; omega, fun h => absurd h (by omega)⟩, fun _ h => by cases h⟩; rw [hY1'] at h9; exact h9))
          have HT2 := HT1
          go_wp2_with fail
          refine wp_region_held_drew (S := fun w' : World => w'.cell? ⟨bb, 0, none⟩ = some (.slice A1 n1 k1) ∧ w'.cell? ⟨bb, 1, none⟩ = some (.slice A2 n2 k2) ∧ w'.cell? ⟨bb, 2, none⟩ = some (.int .i64 q)) (by kernel_rfl) ⟨d0, d1, d2⟩ (fun hS => ?_)
          refine wpAnyH_take (i := 1) (oi := ?oi101) (v := ?v101) ?hi101 (by kernel_rfl) ?hf101 ?hr101 ?hQ101 (Or.inl ⟨?hw101, ?hy101⟩) (by assumption) ?rest101
          case hi101 => simp only [List.getElem?_toArray, List.getElem?_cons_succ, List.getElem?_cons_zero]; rfl
          case hf101 => kernel_rfl
          case hr101 => kernel_rfl
          case hw101 => rfl
          case hy101 => (intro w hSw; (try dsimp only at hSw); go_simp; all_goals (first | done | with_reducible rfl))
          case hQ101 => exact fun _ _ _ h => h
          simp only [Act.put, List.setIfInBounds_toArray, List.set_cons_zero, List.set_cons_succ]
          refine wpAnyH_take (i := 2) (oi := ?oi102) (v := ?v102) ?hi102 (by kernel_rfl) ?hf102 ?hr102 ?hQ102 (Or.inl ⟨?hw102, ?hy102⟩) (by assumption) ?rest102
          case hi102 => simp only [List.getElem?_toArray, List.getElem?_cons_succ, List.getElem?_cons_zero]; rfl
          case hf102 => kernel_rfl
          case hr102 => kernel_rfl
          case hw102 => rfl
          case hy102 => (intro w hSw; (try dsimp only at hSw); go_simp; all_goals (first | done | with_reducible rfl))
          case hQ102 => exact fun _ _ _ h => h
          simp only [Act.put, List.setIfInBounds_toArray, List.set_cons_zero, List.set_cons_succ]
          refine wpAnyH_take (i := 3) (oi := ?oi103) (v := ?v103) ?hi103 (by kernel_rfl) ?hf103 ?hr103 ?hQ103 (Or.inl ⟨?hw103, ?hy103⟩) (by assumption) ?rest103
          case hi103 => simp only [List.getElem?_toArray, List.getElem?_cons_succ, List.getElem?_cons_zero]; rfl
          case hf103 => kernel_rfl
          case hr103 => kernel_rfl
          case hw103 => rfl
          case hy103 => (intro w hSw; (try dsimp only at hSw); go_simp; all_goals (first | done | with_reducible rfl))
          case hQ103 => exact fun _ _ _ h => h
          simp only [Act.put, List.setIfInBounds_toArray, List.set_cons_zero, List.set_cons_succ]
          refine wpAnyH_take (i := 4) (oi := ?oi104) (v := ?v104) ?hi104 (by kernel_rfl) ?hf104 ?hr104 ?hQ104 (Or.inl ⟨?hw104, ?hy104⟩) (by assumption) ?rest104
          case hi104 => simp only [List.getElem?_toArray, List.getElem?_cons_succ, List.getElem?_cons_zero]; rfl
          case hf104 => kernel_rfl
          case hr104 => kernel_rfl
          case hw104 => rfl
          case hy104 => (intro w hSw; (try dsimp only at hSw); go_simp; all_goals (first | done | with_reducible rfl))
          case hQ104 => exact fun _ _ _ h => h
          simp only [Act.put, List.setIfInBounds_toArray, List.set_cons_zero, List.set_cons_succ]
          refine wpAnyH_take (i := 7) (oi := ?oi105) (v := ?v105) ?hi105 (by kernel_rfl) ?hf105 ?hr105 ?hQ105 (Or.inl ⟨?hw105, ?hy105⟩) (by assumption) ?rest105
          case hi105 => simp only [List.getElem?_toArray, List.getElem?_cons_succ, List.getElem?_cons_zero]; rfl
          case hf105 => kernel_rfl
          case hr105 => kernel_rfl
          case hw105 => rfl
          case hy105 => (intro w hSw; (try dsimp only at hSw); go_simp; all_goals (first | done | with_reducible rfl))
          case hQ105 => exact fun _ _ _ h => h
          simp only [Act.put, List.setIfInBounds_toArray, List.set_cons_zero, List.set_cons_succ]
          refine wpAnyH_take (i := 8) (oi := ?oi106) (v := ?v106) ?hi106 (by kernel_rfl) ?hf106 ?hr106 ?hQ106 (Or.inl ⟨?hw106, ?hy106⟩) (by assumption) ?rest106
          case hi106 => simp only [List.getElem?_toArray, List.getElem?_cons_succ, List.getElem?_cons_zero]; rfl
          case hf106 => kernel_rfl
          case hr106 => kernel_rfl
          case hw106 => rfl
          case hy106 => (intro w hSw; (try dsimp only at hSw); go_simp; all_goals (first | done | with_reducible rfl))
          case hQ106 => exact fun _ _ _ h => h
          simp only [Act.put, List.setIfInBounds_toArray, List.set_cons_zero, List.set_cons_succ]
          refine wpAnyH_take (i := 9) (oi := ?oi107) (v := ?v107) ?hi107 (by kernel_rfl) ?hf107 ?hr107 ?hQ107 (Or.inl ⟨?hw107, ?hy107⟩) (by assumption) ?rest107
          case hi107 => simp only [List.getElem?_toArray, List.getElem?_cons_succ, List.getElem?_cons_zero]; rfl
          case hf107 => kernel_rfl
          case hr107 => kernel_rfl
          case hw107 => rfl
          case hy107 => (intro w hSw; (try dsimp only at hSw); go_simp; all_goals (first | done | with_reducible rfl))
          case hQ107 => exact fun _ _ _ h => h
          simp only [Act.put, List.setIfInBounds_toArray, List.set_cons_zero, List.set_cons_succ]
          refine wpAnyH_take (i := 10) (oi := ?oi108) (v := ?v108) ?hi108 (by kernel_rfl) ?hf108 ?hr108 ?hQ108 (Or.inl ⟨?hw108, ?hy108⟩) (by assumption) ?rest108
          case hi108 => simp only [List.getElem?_toArray, List.getElem?_cons_succ, List.getElem?_cons_zero]; rfl
          case hf108 => kernel_rfl
          case hr108 => kernel_rfl
          case hw108 => rfl
          case hy108 => (intro w hSw; (try dsimp only at hSw); go_simp; all_goals (first | done | with_reducible rfl))
          case hQ108 => exact fun _ _ _ h => h
          simp only [Act.put, List.setIfInBounds_toArray, List.set_cons_zero, List.set_cons_succ]
          refine wpAnyH_take (i := 13) (oi := ?oi109) (v := ?v109) ?hi109 (by kernel_rfl) ?hf109 ?hr109 ?hQ109 (Or.inl ⟨?hw109, ?hy109⟩) (by assumption) ?rest109
          case hi109 => simp only [List.getElem?_toArray, List.getElem?_cons_succ, List.getElem?_cons_zero]; rfl
          case hf109 => kernel_rfl
          case hr109 => kernel_rfl
          case hw109 => rfl
          case hy109 => (intro w hSw; (try dsimp only at hSw); go_simp; all_goals (first | done | with_reducible rfl))
          case hQ109 => exact fun _ _ _ h => h
          simp only [Act.put, List.setIfInBounds_toArray, List.set_cons_zero, List.set_cons_succ]
          have HNd := hid ((Below.refl w7.heap.size w7).drew)
          refine wpAnyH_ready (rs := [0, 5]) (by kernel_rfl) (by simp) ?_
          refine AllReadyH.cons (o := ?oi110) ?hi110 (fun K hK => ?stepA110) (AllReadyH.cons (o := ?oj110) ?hj110 (fun K hK => ?stepB110) AllReadyH.nil)
          case hi110 => simp only [List.getElem?_toArray, List.getElem?_cons_succ, List.getElem?_cons_zero]; rfl
          case hj110 => simp only [List.getElem?_toArray, List.getElem?_cons_succ, List.getElem?_cons_zero]; rfl
          all_goals rw [if_pos (by rfl)]
          all_goals go_simp
          · have HN0 := hid (HNd.out.alloc (Nat.le_refl _) (.cells #[] 41))
            have HL0 := hid (show (w7.drew.alloc (.cells #[] 41)).ownsRow w7.heap.size 41 6 (.slice (some ⟨w7.drew.heap.size, 0, none⟩) 0 0) 0 [] from World.ownsRow_lit w7.drew #[] 0 (Nat.le_refl _) (by unfold maxLen; omega) rfl)
            refine hK.out _ _ (SF.out _ HN0.out) (fun _ => ?_)
            refine wpAnyH_ready (rs := [5]) (by kernel_rfl) (by simp) ?_
            refine AllReadyH.cons (o := ?oi111) ?hi111 (fun K hK => ?step111) AllReadyH.nil
            case hi111 => simp only [List.getElem?_toArray, List.getElem?_cons_succ, List.getElem?_cons_zero]; rfl
            rw [if_pos (by rfl)]
            go_simp
            go_at_call 25
            refine (HT1.out _ HN0.out).mono ?_
            rintro e w5x ⟨v5, rfl, ho5, hb⟩
            obtain ⟨A5, c5, rfl, _, _⟩ := (Sl.of_own ho5).form
            have HN5 := hid (HN0.out.trans (hb.mono HN0.out.size))
            have HL5 := hid (own_below HL0.out hb)
            have HS5 := hid (Sl.of_own ho5)
            clear hb ho5
            refine hK.out _ _ (SF.out _ HN5.out) (fun _ => ?_)
            refine wpAnyH_ready (rs := [6]) (by kernel_rfl) (by simp) ?_
            refine AllReadyH.cons (o := ?oi112) ?hi112 (fun K hK => ?step112) AllReadyH.nil
            case hi112 => simp only [List.getElem?_toArray, List.getElem?_cons_succ, List.getElem?_cons_zero]; rfl
            rw [if_pos (by rfl)]
            refine wp_appG rfl rfl w7.heap.size 41 i0 _ 6 80 Tryz.underlying31 HI.out.1 HI.out.2.1 HI.out.2.2.1 HI.out.2.2.2 rfl (by decide) (by rfl) HL5.out (by rfl) HS5.out (sncells_one _) (by unfold maxLen; omega) (by omega) HN5.out.size ?_
            intro v6 wa ho6 hg6 _
            simp only [Nat.zero_add, List.nil_append] at ho6
            obtain ⟨A6, c6, rfl, _, _⟩ := (Sl.of_own ho6).form
            have HN6 := hid (HN5.out.trans (below_of_grown hg6 HN5.out.size (own_lt HL5.out)))
            have HO6 := hid ho6
            clear ho6 hg6
            refine hK.out _ _ (SF.out _ HN6.out) (fun _ => ?_)
            refine wpAnyH_ready (rs := [11]) (by kernel_rfl) (by simp) ?_
            refine AllReadyH.cons (o := ?oi113) ?hi113 (fun K hK => ?step113) AllReadyH.nil
            case hi113 => simp only [List.getElem?_toArray, List.getElem?_cons_succ, List.getElem?_cons_zero]; rfl
            rw [if_pos (by rfl)]
            go_simp
            go_at_call 25
            refine (HT2.out _ HN6.out).mono ?_
            rintro e w11 ⟨v11, rfl, ho11, hb⟩
            obtain ⟨A11, c11, rfl, _, _⟩ := (Sl.of_own ho11).form
            have HN11 := hid (HN6.out.trans (hb.mono HN6.out.size))
            have HO11 := hid (own_below HO6.out hb)
            have HS11 := hid (Sl.of_own ho11)
            clear hb ho11
            refine hK.out _ _ (SF.out _ HN11.out) (fun _ => ?_)
            refine wpAnyH_ready (rs := [12]) (by kernel_rfl) (by simp) ?_
            refine AllReadyH.cons (o := ?oi114) ?hi114 (fun K hK => ?step114) AllReadyH.nil
            case hi114 => simp only [List.getElem?_toArray, List.getElem?_cons_succ, List.getElem?_cons_zero]; rfl
            rw [if_pos (by rfl)]
            refine wp_appG rfl rfl w7.heap.size 41 i0 _ 6 80 Tryz.underlying31 HI.out.1 HI.out.2.1 HI.out.2.2.1 HI.out.2.2.2 rfl (by decide) (by rfl) HO11.out (by rfl) HS11.out (sncells_one _) (by unfold maxLen; omega) (by omega) HN11.out.size ?_
            intro v12 wb ho12 hg12 _
            obtain ⟨A12, c12, rfl, _, _⟩ := (Sl.of_own ho12).form
            have HN12 := hid (HN11.out.trans (below_of_grown hg12 HN11.out.size (own_lt HO11.out)))
            have CQ := hid (equalSent_c _ _ X.length wb.heap.size X wb (by have h9 := Sl.of_own ho12; rw [← List.flatMap_append, EQ.out, show Y1.length + Y1.length = X.length by rw [← EQ.out, List.length_append]] at h9; rw [← show Y1.length + Y1.length = X.length by rw [← EQ.out, List.length_append]] at h9 ⊢; exact h9) (((Sl.of_own O3.out).below (HV.out.trans (HN12.out.mono HV.out.size)) (Nat.le_refl _)).more (Nat.le_trans HV.out.size HN12.out.size)) (Nat.le_refl _))
            clear ho12 hg12
            refine hK.out _ _ (SF.out _ HN12.out) (fun _ => ?_)
            refine wpAnyH_ready (rs := [14]) (by kernel_rfl) (by simp) ?_
            refine AllReadyH.cons (o := ?oi115) ?hi115 (fun K hK => ?step115) AllReadyH.nil
            case hi115 => simp only [List.getElem?_toArray, List.getElem?_cons_succ, List.getElem?_cons_zero]; rfl
            rw [if_pos (by rfl)]
            go_simp
            go_at_call 13
            refine CQ.out.mono ?_
            rintro e w14 ⟨rfl, hb⟩
            have HN14 := hid (HN12.out.trans (hb.mono HN12.out.size))
            clear hb CQ
            refine hK.out _ _ (SF.out _ HN14.out) (fun _ => ?_)
            refine wpAnyH_take (i := 15) (oi := ?oi116) (v := ?v116) ?hi116 (by kernel_rfl) ?hf116 ?hr116 ?hQ116 (Or.inl ⟨?hw116, ?hy116⟩) (by assumption) ?rest116
            case hi116 => simp only [List.getElem?_toArray, List.getElem?_cons_succ, List.getElem?_cons_zero]; rfl
            case hf116 => kernel_rfl
            case hr116 => kernel_rfl
            case hw116 => rfl
            case hy116 => (intro w hSw; (try dsimp only at hSw); go_simp; all_goals (first | done | with_reducible rfl))
            case hQ116 => exact fun _ _ _ h => h
            simp only [Act.put, List.setIfInBounds_toArray, List.set_cons_zero, List.set_cons_succ]
            refine wpAnyH_done (by kernel_rfl) ?_ _
            go_wp2_with fail
            go_ret
            exact ⟨rfl, HB.out.trans ((HW.out.trans (HN14.out.mono HW.out.size)).mono HB.out.size)⟩
          · go_at_call 25
            refine (HT1.out _ HNd.out).mono ?_
            rintro e w5x ⟨v5, rfl, ho5, hb⟩
            obtain ⟨A5, c5, rfl, _, _⟩ := (Sl.of_own ho5).form
            have HN5a := hid (HNd.out.trans (hb.mono HNd.out.size))
            have HS5a := hid (Sl.of_own ho5)
            clear hb ho5
            refine hK.out _ _ (SF.out _ HN5a.out) (fun _ => ?_)
            refine wpAnyH_ready (rs := [0]) (by kernel_rfl) (by simp) ?_
            refine AllReadyH.cons (o := ?oi117) ?hi117 (fun K hK => ?step117) AllReadyH.nil
            case hi117 => simp only [List.getElem?_toArray, List.getElem?_cons_succ, List.getElem?_cons_zero]; rfl
            rw [if_pos (by rfl)]
            go_simp
            have HN5 := hid (HN5a.out.alloc HN5a.out.size (.cells #[] 41))
            have HL5 := hid (show (w5x.alloc (.cells #[] 41)).ownsRow w7.heap.size 41 6 (.slice (some ⟨w5x.heap.size, 0, none⟩) 0 0) 0 [] from World.ownsRow_lit w5x #[] 0 HN5a.out.size (by unfold maxLen; omega) rfl)
            have HS5 := hid ((HS5a.out.below ((Below.refl w5x.heap.size w5x).alloc (Nat.le_refl _) (.cells #[] 41)) (Nat.le_refl _)).more (show w5x.heap.size ≤ (w5x.alloc (.cells #[] 41)).heap.size by simp))
            refine hK.out _ _ (SF.out _ HN5.out) (fun _ => ?_)
            refine wpAnyH_ready (rs := [6]) (by kernel_rfl) (by simp) ?_
            refine AllReadyH.cons (o := ?oi118) ?hi118 (fun K hK => ?step118) AllReadyH.nil
            case hi118 => simp only [List.getElem?_toArray, List.getElem?_cons_succ, List.getElem?_cons_zero]; rfl
            rw [if_pos (by rfl)]
            refine wp_appG rfl rfl w7.heap.size 41 i0 _ 6 80 Tryz.underlying31 HI.out.1 HI.out.2.1 HI.out.2.2.1 HI.out.2.2.2 rfl (by decide) (by rfl) HL5.out (by rfl) HS5.out (sncells_one _) (by unfold maxLen; omega) (by omega) HN5.out.size ?_
            intro v6 wa ho6 hg6 _
            simp only [Nat.zero_add, List.nil_append] at ho6
            obtain ⟨A6, c6, rfl, _, _⟩ := (Sl.of_own ho6).form
            have HN6 := hid (HN5.out.trans (below_of_grown hg6 HN5.out.size (own_lt HL5.out)))
            have HO6 := hid ho6
            clear ho6 hg6
            refine hK.out _ _ (SF.out _ HN6.out) (fun _ => ?_)
            refine wpAnyH_ready (rs := [11]) (by kernel_rfl) (by simp) ?_
            refine AllReadyH.cons (o := ?oi119) ?hi119 (fun K hK => ?step119) AllReadyH.nil
            case hi119 => simp only [List.getElem?_toArray, List.getElem?_cons_succ, List.getElem?_cons_zero]; rfl
            rw [if_pos (by rfl)]
            go_simp
            go_at_call 25
            refine (HT2.out _ HN6.out).mono ?_
            rintro e w11 ⟨v11, rfl, ho11, hb⟩
            obtain ⟨A11, c11, rfl, _, _⟩ := (Sl.of_own ho11).form
            have HN11 := hid (HN6.out.trans (hb.mono HN6.out.size))
            have HO11 := hid (own_below HO6.out hb)
            have HS11 := hid (Sl.of_own ho11)
            clear hb ho11
            refine hK.out _ _ (SF.out _ HN11.out) (fun _ => ?_)
            refine wpAnyH_ready (rs := [12]) (by kernel_rfl) (by simp) ?_
            refine AllReadyH.cons (o := ?oi120) ?hi120 (fun K hK => ?step120) AllReadyH.nil
            case hi120 => simp only [List.getElem?_toArray, List.getElem?_cons_succ, List.getElem?_cons_zero]; rfl
            rw [if_pos (by rfl)]
            refine wp_appG rfl rfl w7.heap.size 41 i0 _ 6 80 Tryz.underlying31 HI.out.1 HI.out.2.1 HI.out.2.2.1 HI.out.2.2.2 rfl (by decide) (by rfl) HO11.out (by rfl) HS11.out (sncells_one _) (by unfold maxLen; omega) (by omega) HN11.out.size ?_
            intro v12 wb ho12 hg12 _
            obtain ⟨A12, c12, rfl, _, _⟩ := (Sl.of_own ho12).form
            have HN12 := hid (HN11.out.trans (below_of_grown hg12 HN11.out.size (own_lt HO11.out)))
            have CQ := hid (equalSent_c _ _ X.length wb.heap.size X wb (by have h9 := Sl.of_own ho12; rw [← List.flatMap_append, EQ.out, show Y1.length + Y1.length = X.length by rw [← EQ.out, List.length_append]] at h9; rw [← show Y1.length + Y1.length = X.length by rw [← EQ.out, List.length_append]] at h9 ⊢; exact h9) (((Sl.of_own O3.out).below (HV.out.trans (HN12.out.mono HV.out.size)) (Nat.le_refl _)).more (Nat.le_trans HV.out.size HN12.out.size)) (Nat.le_refl _))
            clear ho12 hg12
            refine hK.out _ _ (SF.out _ HN12.out) (fun _ => ?_)
            refine wpAnyH_ready (rs := [14]) (by kernel_rfl) (by simp) ?_
            refine AllReadyH.cons (o := ?oi121) ?hi121 (fun K hK => ?step121) AllReadyH.nil
            case hi121 => simp only [List.getElem?_toArray, List.getElem?_cons_succ, List.getElem?_cons_zero]; rfl
            rw [if_pos (by rfl)]
            go_simp
            go_at_call 13
            refine CQ.out.mono ?_
            rintro e w14 ⟨rfl, hb⟩
            have HN14 := hid (HN12.out.trans (hb.mono HN12.out.size))
            clear hb CQ
            refine hK.out _ _ (SF.out _ HN14.out) (fun _ => ?_)
            refine wpAnyH_take (i := 15) (oi := ?oi122) (v := ?v122) ?hi122 (by kernel_rfl) ?hf122 ?hr122 ?hQ122 (Or.inl ⟨?hw122, ?hy122⟩) (by assumption) ?rest122
            case hi122 => simp only [List.getElem?_toArray, List.getElem?_cons_succ, List.getElem?_cons_zero]; rfl
            case hf122 => kernel_rfl
            case hr122 => kernel_rfl
            case hw122 => rfl
            case hy122 => (intro w hSw; (try dsimp only at hSw); go_simp; all_goals (first | done | with_reducible rfl))
            case hQ122 => exact fun _ _ _ h => h
            simp only [Act.put, List.setIfInBounds_toArray, List.set_cons_zero, List.set_cons_succ]
            refine wpAnyH_done (by kernel_rfl) ?_ _
            go_wp2_with fail
            go_ret
            exact ⟨rfl, HB.out.trans ((HW.out.trans (HN14.out.mono HW.out.size)).mono HB.out.size)⟩
        · subst hA
          by_cases hc0 : cr = 0
          · subst hc0
            have HT1 := hid (fun (W : World) (hW : Below w7.heap.size w7 W) => (show Calls Tryz.prog 25 #[.agg #[.slice A1 n1 k1, .slice A2 n2 k2, .int .i64 q], .slice (some ⟨g, 0, none⟩) 0 0] W (RowPost W 41 6 Y1.length (Y1.flatMap sncells)) from by have h9 := CJ.out 0 0 (some ⟨g, 0, none⟩) 0 [] W (HW.out.trans (hW.mono HW.out.size)) ⟨⟨rfl, _, _, rfl, Nat.zero_le _, by unfold maxLen; omega, fun h => absurd h (by omega)⟩, fun _ h => by cases h⟩; rw [hY1'] at h9; exact h9))
            have HT2 := HT1
            go_wp2_with fail
            refine wp_region_held_drew (S := fun w' : World => w'.cell? ⟨bb, 0, none⟩ = some (.slice A1 n1 k1) ∧ w'.cell? ⟨bb, 1, none⟩ = some (.slice A2 n2 k2) ∧ w'.cell? ⟨bb, 2, none⟩ = some (.int .i64 q)) (by kernel_rfl) ⟨d0, d1, d2⟩ (fun hS => ?_)
            refine wpAnyH_take (i := 1) (oi := ?oi123) (v := ?v123) ?hi123 (by kernel_rfl) ?hf123 ?hr123 ?hQ123 (Or.inl ⟨?hw123, ?hy123⟩) (by assumption) ?rest123
            case hi123 => simp only [List.getElem?_toArray, List.getElem?_cons_succ, List.getElem?_cons_zero]; rfl
            case hf123 => kernel_rfl
            case hr123 => kernel_rfl
            case hw123 => rfl
            case hy123 => (intro w hSw; (try dsimp only at hSw); go_simp; all_goals (first | done | with_reducible rfl))
            case hQ123 => exact fun _ _ _ h => h
            simp only [Act.put, List.setIfInBounds_toArray, List.set_cons_zero, List.set_cons_succ]
            refine wpAnyH_take (i := 2) (oi := ?oi124) (v := ?v124) ?hi124 (by kernel_rfl) ?hf124 ?hr124 ?hQ124 (Or.inl ⟨?hw124, ?hy124⟩) (by assumption) ?rest124
            case hi124 => simp only [List.getElem?_toArray, List.getElem?_cons_succ, List.getElem?_cons_zero]; rfl
            case hf124 => kernel_rfl
            case hr124 => kernel_rfl
            case hw124 => rfl
            case hy124 => (intro w hSw; (try dsimp only at hSw); go_simp; all_goals (first | done | with_reducible rfl))
            case hQ124 => exact fun _ _ _ h => h
            simp only [Act.put, List.setIfInBounds_toArray, List.set_cons_zero, List.set_cons_succ]
            refine wpAnyH_take (i := 3) (oi := ?oi125) (v := ?v125) ?hi125 (by kernel_rfl) ?hf125 ?hr125 ?hQ125 (Or.inl ⟨?hw125, ?hy125⟩) (by assumption) ?rest125
            case hi125 => simp only [List.getElem?_toArray, List.getElem?_cons_succ, List.getElem?_cons_zero]; rfl
            case hf125 => kernel_rfl
            case hr125 => kernel_rfl
            case hw125 => rfl
            case hy125 => (intro w hSw; (try dsimp only at hSw); go_simp; all_goals (first | done | with_reducible rfl))
            case hQ125 => exact fun _ _ _ h => h
            simp only [Act.put, List.setIfInBounds_toArray, List.set_cons_zero, List.set_cons_succ]
            refine wpAnyH_take (i := 4) (oi := ?oi126) (v := ?v126) ?hi126 (by kernel_rfl) ?hf126 ?hr126 ?hQ126 (Or.inl ⟨?hw126, ?hy126⟩) (by assumption) ?rest126
            case hi126 => simp only [List.getElem?_toArray, List.getElem?_cons_succ, List.getElem?_cons_zero]; rfl
            case hf126 => kernel_rfl
            case hr126 => kernel_rfl
            case hw126 => rfl
            case hy126 => (intro w hSw; (try dsimp only at hSw); go_simp; all_goals (first | done | with_reducible rfl))
            case hQ126 => exact fun _ _ _ h => h
            simp only [Act.put, List.setIfInBounds_toArray, List.set_cons_zero, List.set_cons_succ]
            refine wpAnyH_take (i := 7) (oi := ?oi127) (v := ?v127) ?hi127 (by kernel_rfl) ?hf127 ?hr127 ?hQ127 (Or.inl ⟨?hw127, ?hy127⟩) (by assumption) ?rest127
            case hi127 => simp only [List.getElem?_toArray, List.getElem?_cons_succ, List.getElem?_cons_zero]; rfl
            case hf127 => kernel_rfl
            case hr127 => kernel_rfl
            case hw127 => rfl
            case hy127 => (intro w hSw; (try dsimp only at hSw); go_simp; all_goals (first | done | with_reducible rfl))
            case hQ127 => exact fun _ _ _ h => h
            simp only [Act.put, List.setIfInBounds_toArray, List.set_cons_zero, List.set_cons_succ]
            refine wpAnyH_take (i := 8) (oi := ?oi128) (v := ?v128) ?hi128 (by kernel_rfl) ?hf128 ?hr128 ?hQ128 (Or.inl ⟨?hw128, ?hy128⟩) (by assumption) ?rest128
            case hi128 => simp only [List.getElem?_toArray, List.getElem?_cons_succ, List.getElem?_cons_zero]; rfl
            case hf128 => kernel_rfl
            case hr128 => kernel_rfl
            case hw128 => rfl
            case hy128 => (intro w hSw; (try dsimp only at hSw); go_simp; all_goals (first | done | with_reducible rfl))
            case hQ128 => exact fun _ _ _ h => h
            simp only [Act.put, List.setIfInBounds_toArray, List.set_cons_zero, List.set_cons_succ]
            refine wpAnyH_take (i := 9) (oi := ?oi129) (v := ?v129) ?hi129 (by kernel_rfl) ?hf129 ?hr129 ?hQ129 (Or.inl ⟨?hw129, ?hy129⟩) (by assumption) ?rest129
            case hi129 => simp only [List.getElem?_toArray, List.getElem?_cons_succ, List.getElem?_cons_zero]; rfl
            case hf129 => kernel_rfl
            case hr129 => kernel_rfl
            case hw129 => rfl
            case hy129 => (intro w hSw; (try dsimp only at hSw); go_simp; all_goals (first | done | with_reducible rfl))
            case hQ129 => exact fun _ _ _ h => h
            simp only [Act.put, List.setIfInBounds_toArray, List.set_cons_zero, List.set_cons_succ]
            refine wpAnyH_take (i := 10) (oi := ?oi130) (v := ?v130) ?hi130 (by kernel_rfl) ?hf130 ?hr130 ?hQ130 (Or.inl ⟨?hw130, ?hy130⟩) (by assumption) ?rest130
            case hi130 => simp only [List.getElem?_toArray, List.getElem?_cons_succ, List.getElem?_cons_zero]; rfl
            case hf130 => kernel_rfl
            case hr130 => kernel_rfl
            case hw130 => rfl
            case hy130 => (intro w hSw; (try dsimp only at hSw); go_simp; all_goals (first | done | with_reducible rfl))
            case hQ130 => exact fun _ _ _ h => h
            simp only [Act.put, List.setIfInBounds_toArray, List.set_cons_zero, List.set_cons_succ]
            refine wpAnyH_take (i := 13) (oi := ?oi131) (v := ?v131) ?hi131 (by kernel_rfl) ?hf131 ?hr131 ?hQ131 (Or.inl ⟨?hw131, ?hy131⟩) (by assumption) ?rest131
            case hi131 => simp only [List.getElem?_toArray, List.getElem?_cons_succ, List.getElem?_cons_zero]; rfl
            case hf131 => kernel_rfl
            case hr131 => kernel_rfl
            case hw131 => rfl
            case hy131 => (intro w hSw; (try dsimp only at hSw); go_simp; all_goals (first | done | with_reducible rfl))
            case hQ131 => exact fun _ _ _ h => h
            simp only [Act.put, List.setIfInBounds_toArray, List.set_cons_zero, List.set_cons_succ]
            have HNd := hid ((Below.refl w7.heap.size w7).drew)
            refine wpAnyH_ready (rs := [0, 5]) (by kernel_rfl) (by simp) ?_
            refine AllReadyH.cons (o := ?oi132) ?hi132 (fun K hK => ?stepA132) (AllReadyH.cons (o := ?oj132) ?hj132 (fun K hK => ?stepB132) AllReadyH.nil)
            case hi132 => simp only [List.getElem?_toArray, List.getElem?_cons_succ, List.getElem?_cons_zero]; rfl
            case hj132 => simp only [List.getElem?_toArray, List.getElem?_cons_succ, List.getElem?_cons_zero]; rfl
            all_goals rw [if_pos (by rfl)]
            all_goals go_simp
            · have HN0 := hid (HNd.out.alloc (Nat.le_refl _) (.cells #[] 41))
              have HL0 := hid (show (w7.drew.alloc (.cells #[] 41)).ownsRow w7.heap.size 41 6 (.slice (some ⟨w7.drew.heap.size, 0, none⟩) 0 0) 0 [] from World.ownsRow_lit w7.drew #[] 0 (Nat.le_refl _) (by unfold maxLen; omega) rfl)
              refine hK.out _ _ (SF.out _ HN0.out) (fun _ => ?_)
              refine wpAnyH_ready (rs := [5]) (by kernel_rfl) (by simp) ?_
              refine AllReadyH.cons (o := ?oi133) ?hi133 (fun K hK => ?step133) AllReadyH.nil
              case hi133 => simp only [List.getElem?_toArray, List.getElem?_cons_succ, List.getElem?_cons_zero]; rfl
              rw [if_pos (by rfl)]
              go_simp
              go_at_call 25
              refine (HT1.out _ HN0.out).mono ?_
              rintro e w5x ⟨v5, rfl, ho5, hb⟩
              obtain ⟨A5, c5, rfl, _, _⟩ := (Sl.of_own ho5).form
              have HN5 := hid (HN0.out.trans (hb.mono HN0.out.size))
              have HL5 := hid (own_below HL0.out hb)
              have HS5 := hid (Sl.of_own ho5)
              clear hb ho5
              refine hK.out _ _ (SF.out _ HN5.out) (fun _ => ?_)
              refine wpAnyH_ready (rs := [6]) (by kernel_rfl) (by simp) ?_
              refine AllReadyH.cons (o := ?oi134) ?hi134 (fun K hK => ?step134) AllReadyH.nil
              case hi134 => simp only [List.getElem?_toArray, List.getElem?_cons_succ, List.getElem?_cons_zero]; rfl
              rw [if_pos (by rfl)]
              refine wp_appG rfl rfl w7.heap.size 41 i0 _ 6 80 Tryz.underlying31 HI.out.1 HI.out.2.1 HI.out.2.2.1 HI.out.2.2.2 rfl (by decide) (by rfl) HL5.out (by rfl) HS5.out (sncells_one _) (by unfold maxLen; omega) (by omega) HN5.out.size ?_
              intro v6 wa ho6 hg6 _
              simp only [Nat.zero_add, List.nil_append] at ho6
              obtain ⟨A6, c6, rfl, _, _⟩ := (Sl.of_own ho6).form
              have HN6 := hid (HN5.out.trans (below_of_grown hg6 HN5.out.size (own_lt HL5.out)))
              have HO6 := hid ho6
              clear ho6 hg6
              refine hK.out _ _ (SF.out _ HN6.out) (fun _ => ?_)
              refine wpAnyH_ready (rs := [11]) (by kernel_rfl) (by simp) ?_
              refine AllReadyH.cons (o := ?oi135) ?hi135 (fun K hK => ?step135) AllReadyH.nil
              case hi135 => simp only [List.getElem?_toArray, List.getElem?_cons_succ, List.getElem?_cons_zero]; rfl
              rw [if_pos (by rfl)]
              go_simp
              go_at_call 25
              refine (HT2.out _ HN6.out).mono ?_
              rintro e w11 ⟨v11, rfl, ho11, hb⟩
              obtain ⟨A11, c11, rfl, _, _⟩ := (Sl.of_own ho11).form
              have HN11 := hid (HN6.out.trans (hb.mono HN6.out.size))
              have HO11 := hid (own_below HO6.out hb)
              have HS11 := hid (Sl.of_own ho11)
              clear hb ho11
              refine hK.out _ _ (SF.out _ HN11.out) (fun _ => ?_)
              refine wpAnyH_ready (rs := [12]) (by kernel_rfl) (by simp) ?_
              refine AllReadyH.cons (o := ?oi136) ?hi136 (fun K hK => ?step136) AllReadyH.nil
              case hi136 => simp only [List.getElem?_toArray, List.getElem?_cons_succ, List.getElem?_cons_zero]; rfl
              rw [if_pos (by rfl)]
              refine wp_appG rfl rfl w7.heap.size 41 i0 _ 6 80 Tryz.underlying31 HI.out.1 HI.out.2.1 HI.out.2.2.1 HI.out.2.2.2 rfl (by decide) (by rfl) HO11.out (by rfl) HS11.out (sncells_one _) (by unfold maxLen; omega) (by omega) HN11.out.size ?_
              intro v12 wb ho12 hg12 _
              obtain ⟨A12, c12, rfl, _, _⟩ := (Sl.of_own ho12).form
              have HN12 := hid (HN11.out.trans (below_of_grown hg12 HN11.out.size (own_lt HO11.out)))
              have CQ := hid (equalSent_c _ _ X.length wb.heap.size X wb (by have h9 := Sl.of_own ho12; rw [← List.flatMap_append, EQ.out, show Y1.length + Y1.length = X.length by rw [← EQ.out, List.length_append]] at h9; rw [← show Y1.length + Y1.length = X.length by rw [← EQ.out, List.length_append]] at h9 ⊢; exact h9) (((Sl.of_own O3.out).below (HV.out.trans (HN12.out.mono HV.out.size)) (Nat.le_refl _)).more (Nat.le_trans HV.out.size HN12.out.size)) (Nat.le_refl _))
              clear ho12 hg12
              refine hK.out _ _ (SF.out _ HN12.out) (fun _ => ?_)
              refine wpAnyH_ready (rs := [14]) (by kernel_rfl) (by simp) ?_
              refine AllReadyH.cons (o := ?oi137) ?hi137 (fun K hK => ?step137) AllReadyH.nil
              case hi137 => simp only [List.getElem?_toArray, List.getElem?_cons_succ, List.getElem?_cons_zero]; rfl
              rw [if_pos (by rfl)]
              go_simp
              go_at_call 13
              refine CQ.out.mono ?_
              rintro e w14 ⟨rfl, hb⟩
              have HN14 := hid (HN12.out.trans (hb.mono HN12.out.size))
              clear hb CQ
              refine hK.out _ _ (SF.out _ HN14.out) (fun _ => ?_)
              refine wpAnyH_take (i := 15) (oi := ?oi138) (v := ?v138) ?hi138 (by kernel_rfl) ?hf138 ?hr138 ?hQ138 (Or.inl ⟨?hw138, ?hy138⟩) (by assumption) ?rest138
              case hi138 => simp only [List.getElem?_toArray, List.getElem?_cons_succ, List.getElem?_cons_zero]; rfl
              case hf138 => kernel_rfl
              case hr138 => kernel_rfl
              case hw138 => rfl
              case hy138 => (intro w hSw; (try dsimp only at hSw); go_simp; all_goals (first | done | with_reducible rfl))
              case hQ138 => exact fun _ _ _ h => h
              simp only [Act.put, List.setIfInBounds_toArray, List.set_cons_zero, List.set_cons_succ]
              refine wpAnyH_done (by kernel_rfl) ?_ _
              go_wp2_with fail
              go_ret
              exact ⟨rfl, HB.out.trans ((HW.out.trans (HN14.out.mono HW.out.size)).mono HB.out.size)⟩
            · go_at_call 25
              refine (HT1.out _ HNd.out).mono ?_
              rintro e w5x ⟨v5, rfl, ho5, hb⟩
              obtain ⟨A5, c5, rfl, _, _⟩ := (Sl.of_own ho5).form
              have HN5a := hid (HNd.out.trans (hb.mono HNd.out.size))
              have HS5a := hid (Sl.of_own ho5)
              clear hb ho5
              refine hK.out _ _ (SF.out _ HN5a.out) (fun _ => ?_)
              refine wpAnyH_ready (rs := [0]) (by kernel_rfl) (by simp) ?_
              refine AllReadyH.cons (o := ?oi139) ?hi139 (fun K hK => ?step139) AllReadyH.nil
              case hi139 => simp only [List.getElem?_toArray, List.getElem?_cons_succ, List.getElem?_cons_zero]; rfl
              rw [if_pos (by rfl)]
              go_simp
              have HN5 := hid (HN5a.out.alloc HN5a.out.size (.cells #[] 41))
              have HL5 := hid (show (w5x.alloc (.cells #[] 41)).ownsRow w7.heap.size 41 6 (.slice (some ⟨w5x.heap.size, 0, none⟩) 0 0) 0 [] from World.ownsRow_lit w5x #[] 0 HN5a.out.size (by unfold maxLen; omega) rfl)
              have HS5 := hid ((HS5a.out.below ((Below.refl w5x.heap.size w5x).alloc (Nat.le_refl _) (.cells #[] 41)) (Nat.le_refl _)).more (show w5x.heap.size ≤ (w5x.alloc (.cells #[] 41)).heap.size by simp))
              refine hK.out _ _ (SF.out _ HN5.out) (fun _ => ?_)
              refine wpAnyH_ready (rs := [6]) (by kernel_rfl) (by simp) ?_
              refine AllReadyH.cons (o := ?oi140) ?hi140 (fun K hK => ?step140) AllReadyH.nil
              case hi140 => simp only [List.getElem?_toArray, List.getElem?_cons_succ, List.getElem?_cons_zero]; rfl
              rw [if_pos (by rfl)]
              refine wp_appG rfl rfl w7.heap.size 41 i0 _ 6 80 Tryz.underlying31 HI.out.1 HI.out.2.1 HI.out.2.2.1 HI.out.2.2.2 rfl (by decide) (by rfl) HL5.out (by rfl) HS5.out (sncells_one _) (by unfold maxLen; omega) (by omega) HN5.out.size ?_
              intro v6 wa ho6 hg6 _
              simp only [Nat.zero_add, List.nil_append] at ho6
              obtain ⟨A6, c6, rfl, _, _⟩ := (Sl.of_own ho6).form
              have HN6 := hid (HN5.out.trans (below_of_grown hg6 HN5.out.size (own_lt HL5.out)))
              have HO6 := hid ho6
              clear ho6 hg6
              refine hK.out _ _ (SF.out _ HN6.out) (fun _ => ?_)
              refine wpAnyH_ready (rs := [11]) (by kernel_rfl) (by simp) ?_
              refine AllReadyH.cons (o := ?oi141) ?hi141 (fun K hK => ?step141) AllReadyH.nil
              case hi141 => simp only [List.getElem?_toArray, List.getElem?_cons_succ, List.getElem?_cons_zero]; rfl
              rw [if_pos (by rfl)]
              go_simp
              go_at_call 25
              refine (HT2.out _ HN6.out).mono ?_
              rintro e w11 ⟨v11, rfl, ho11, hb⟩
              obtain ⟨A11, c11, rfl, _, _⟩ := (Sl.of_own ho11).form
              have HN11 := hid (HN6.out.trans (hb.mono HN6.out.size))
              have HO11 := hid (own_below HO6.out hb)
              have HS11 := hid (Sl.of_own ho11)
              clear hb ho11
              refine hK.out _ _ (SF.out _ HN11.out) (fun _ => ?_)
              refine wpAnyH_ready (rs := [12]) (by kernel_rfl) (by simp) ?_
              refine AllReadyH.cons (o := ?oi142) ?hi142 (fun K hK => ?step142) AllReadyH.nil
              case hi142 => simp only [List.getElem?_toArray, List.getElem?_cons_succ, List.getElem?_cons_zero]; rfl
              rw [if_pos (by rfl)]
              refine wp_appG rfl rfl w7.heap.size 41 i0 _ 6 80 Tryz.underlying31 HI.out.1 HI.out.2.1 HI.out.2.2.1 HI.out.2.2.2 rfl (by decide) (by rfl) HO11.out (by rfl) HS11.out (sncells_one _) (by unfold maxLen; omega) (by omega) HN11.out.size ?_
              intro v12 wb ho12 hg12 _
              obtain ⟨A12, c12, rfl, _, _⟩ := (Sl.of_own ho12).form
              have HN12 := hid (HN11.out.trans (below_of_grown hg12 HN11.out.size (own_lt HO11.out)))
              have CQ := hid (equalSent_c _ _ X.length wb.heap.size X wb (by have h9 := Sl.of_own ho12; rw [← List.flatMap_append, EQ.out, show Y1.length + Y1.length = X.length by rw [← EQ.out, List.length_append]] at h9; rw [← show Y1.length + Y1.length = X.length by rw [← EQ.out, List.length_append]] at h9 ⊢; exact h9) (((Sl.of_own O3.out).below (HV.out.trans (HN12.out.mono HV.out.size)) (Nat.le_refl _)).more (Nat.le_trans HV.out.size HN12.out.size)) (Nat.le_refl _))
              clear ho12 hg12
              refine hK.out _ _ (SF.out _ HN12.out) (fun _ => ?_)
              refine wpAnyH_ready (rs := [14]) (by kernel_rfl) (by simp) ?_
              refine AllReadyH.cons (o := ?oi143) ?hi143 (fun K hK => ?step143) AllReadyH.nil
              case hi143 => simp only [List.getElem?_toArray, List.getElem?_cons_succ, List.getElem?_cons_zero]; rfl
              rw [if_pos (by rfl)]
              go_simp
              go_at_call 13
              refine CQ.out.mono ?_
              rintro e w14 ⟨rfl, hb⟩
              have HN14 := hid (HN12.out.trans (hb.mono HN12.out.size))
              clear hb CQ
              refine hK.out _ _ (SF.out _ HN14.out) (fun _ => ?_)
              refine wpAnyH_take (i := 15) (oi := ?oi144) (v := ?v144) ?hi144 (by kernel_rfl) ?hf144 ?hr144 ?hQ144 (Or.inl ⟨?hw144, ?hy144⟩) (by assumption) ?rest144
              case hi144 => simp only [List.getElem?_toArray, List.getElem?_cons_succ, List.getElem?_cons_zero]; rfl
              case hf144 => kernel_rfl
              case hr144 => kernel_rfl
              case hw144 => rfl
              case hy144 => (intro w hSw; (try dsimp only at hSw); go_simp; all_goals (first | done | with_reducible rfl))
              case hQ144 => exact fun _ _ _ h => h
              simp only [Act.put, List.setIfInBounds_toArray, List.set_cons_zero, List.set_cons_succ]
              refine wpAnyH_done (by kernel_rfl) ?_ _
              go_wp2_with fail
              go_ret
              exact ⟨rfl, HB.out.trans ((HW.out.trans (HN14.out.mono HW.out.size)).mono HB.out.size)⟩
          · skip
            have HT1 := hid (fun (W : World) (hW : Below w7.heap.size w7 W) => (show Calls Tryz.prog 25 #[.agg #[.slice A1 n1 k1, .slice A2 n2 k2, .int .i64 q], .slice (some ⟨g, 0, none⟩) 0 cr] W (RowPost W 41 6 Y1.length (Y1.flatMap sncells)) from by have h9 := CJ.out 0 0 (some ⟨g, 0, none⟩) cr [] W (HW.out.trans (hW.mono HW.out.size)) ⟨⟨rfl, _, _, rfl, Nat.zero_le _, by unfold maxLen; omega, fun h => absurd h (by omega)⟩, fun _ h => by cases h⟩; rw [hY1'] at h9; exact h9))
            have HT2 := HT1
            go_wp2_with fail
            refine wp_region_held_drew (S := fun w' : World => w'.cell? ⟨bb, 0, none⟩ = some (.slice A1 n1 k1) ∧ w'.cell? ⟨bb, 1, none⟩ = some (.slice A2 n2 k2) ∧ w'.cell? ⟨bb, 2, none⟩ = some (.int .i64 q)) (by kernel_rfl) ⟨d0, d1, d2⟩ (fun hS => ?_)
            refine wpAnyH_take (i := 1) (oi := ?oi145) (v := ?v145) ?hi145 (by kernel_rfl) ?hf145 ?hr145 ?hQ145 (Or.inl ⟨?hw145, ?hy145⟩) (by assumption) ?rest145
            case hi145 => simp only [List.getElem?_toArray, List.getElem?_cons_succ, List.getElem?_cons_zero]; rfl
            case hf145 => kernel_rfl
            case hr145 => kernel_rfl
            case hw145 => rfl
            case hy145 => (intro w hSw; (try dsimp only at hSw); go_simp; all_goals (first | done | with_reducible rfl))
            case hQ145 => exact fun _ _ _ h => h
            simp only [Act.put, List.setIfInBounds_toArray, List.set_cons_zero, List.set_cons_succ]
            refine wpAnyH_take (i := 2) (oi := ?oi146) (v := ?v146) ?hi146 (by kernel_rfl) ?hf146 ?hr146 ?hQ146 (Or.inl ⟨?hw146, ?hy146⟩) (by assumption) ?rest146
            case hi146 => simp only [List.getElem?_toArray, List.getElem?_cons_succ, List.getElem?_cons_zero]; rfl
            case hf146 => kernel_rfl
            case hr146 => kernel_rfl
            case hw146 => rfl
            case hy146 => (intro w hSw; (try dsimp only at hSw); go_simp; all_goals (first | done | with_reducible rfl))
            case hQ146 => exact fun _ _ _ h => h
            simp only [Act.put, List.setIfInBounds_toArray, List.set_cons_zero, List.set_cons_succ]
            refine wpAnyH_take (i := 3) (oi := ?oi147) (v := ?v147) ?hi147 (by kernel_rfl) ?hf147 ?hr147 ?hQ147 (Or.inl ⟨?hw147, ?hy147⟩) (by assumption) ?rest147
            case hi147 => simp only [List.getElem?_toArray, List.getElem?_cons_succ, List.getElem?_cons_zero]; rfl
            case hf147 => kernel_rfl
            case hr147 => kernel_rfl
            case hw147 => rfl
            case hy147 => (intro w hSw; (try dsimp only at hSw); go_simp; all_goals (first | done | with_reducible rfl))
            case hQ147 => exact fun _ _ _ h => h
            simp only [Act.put, List.setIfInBounds_toArray, List.set_cons_zero, List.set_cons_succ]
            refine wpAnyH_take (i := 4) (oi := ?oi148) (v := ?v148) ?hi148 (by kernel_rfl) ?hf148 ?hr148 ?hQ148 (Or.inl ⟨?hw148, ?hy148⟩) (by assumption) ?rest148
            case hi148 => simp only [List.getElem?_toArray, List.getElem?_cons_succ, List.getElem?_cons_zero]; rfl
            case hf148 => kernel_rfl
            case hr148 => kernel_rfl
            case hw148 => rfl
            case hy148 => (intro w hSw; (try dsimp only at hSw); go_simp; all_goals (first | done | with_reducible rfl))
            case hQ148 => exact fun _ _ _ h => h
            simp only [Act.put, List.setIfInBounds_toArray, List.set_cons_zero, List.set_cons_succ]
            refine wpAnyH_take (i := 7) (oi := ?oi149) (v := ?v149) ?hi149 (by kernel_rfl) ?hf149 ?hr149 ?hQ149 (Or.inl ⟨?hw149, ?hy149⟩) (by assumption) ?rest149
            case hi149 => simp only [List.getElem?_toArray, List.getElem?_cons_succ, List.getElem?_cons_zero]; rfl
            case hf149 => kernel_rfl
            case hr149 => kernel_rfl
            case hw149 => rfl
            case hy149 => (intro w hSw; (try dsimp only at hSw); go_simp; all_goals (first | done | with_reducible rfl))
            case hQ149 => exact fun _ _ _ h => h
            simp only [Act.put, List.setIfInBounds_toArray, List.set_cons_zero, List.set_cons_succ]
            refine wpAnyH_take (i := 8) (oi := ?oi150) (v := ?v150) ?hi150 (by kernel_rfl) ?hf150 ?hr150 ?hQ150 (Or.inl ⟨?hw150, ?hy150⟩) (by assumption) ?rest150
            case hi150 => simp only [List.getElem?_toArray, List.getElem?_cons_succ, List.getElem?_cons_zero]; rfl
            case hf150 => kernel_rfl
            case hr150 => kernel_rfl
            case hw150 => rfl
            case hy150 => (intro w hSw; (try dsimp only at hSw); go_simp; all_goals (first | done | with_reducible rfl))
            case hQ150 => exact fun _ _ _ h => h
            simp only [Act.put, List.setIfInBounds_toArray, List.set_cons_zero, List.set_cons_succ]
            refine wpAnyH_take (i := 9) (oi := ?oi151) (v := ?v151) ?hi151 (by kernel_rfl) ?hf151 ?hr151 ?hQ151 (Or.inl ⟨?hw151, ?hy151⟩) (by assumption) ?rest151
            case hi151 => simp only [List.getElem?_toArray, List.getElem?_cons_succ, List.getElem?_cons_zero]; rfl
            case hf151 => kernel_rfl
            case hr151 => kernel_rfl
            case hw151 => rfl
            case hy151 => (intro w hSw; (try dsimp only at hSw); go_simp; all_goals (first | done | with_reducible rfl))
            case hQ151 => exact fun _ _ _ h => h
            simp only [Act.put, List.setIfInBounds_toArray, List.set_cons_zero, List.set_cons_succ]
            refine wpAnyH_take (i := 10) (oi := ?oi152) (v := ?v152) ?hi152 (by kernel_rfl) ?hf152 ?hr152 ?hQ152 (Or.inl ⟨?hw152, ?hy152⟩) (by assumption) ?rest152
            case hi152 => simp only [List.getElem?_toArray, List.getElem?_cons_succ, List.getElem?_cons_zero]; rfl
            case hf152 => kernel_rfl
            case hr152 => kernel_rfl
            case hw152 => rfl
            case hy152 => (intro w hSw; (try dsimp only at hSw); go_simp; all_goals (first | done | with_reducible rfl))
            case hQ152 => exact fun _ _ _ h => h
            simp only [Act.put, List.setIfInBounds_toArray, List.set_cons_zero, List.set_cons_succ]
            refine wpAnyH_take (i := 13) (oi := ?oi153) (v := ?v153) ?hi153 (by kernel_rfl) ?hf153 ?hr153 ?hQ153 (Or.inl ⟨?hw153, ?hy153⟩) (by assumption) ?rest153
            case hi153 => simp only [List.getElem?_toArray, List.getElem?_cons_succ, List.getElem?_cons_zero]; rfl
            case hf153 => kernel_rfl
            case hr153 => kernel_rfl
            case hw153 => rfl
            case hy153 => (intro w hSw; (try dsimp only at hSw); go_simp; all_goals (first | done | with_reducible rfl))
            case hQ153 => exact fun _ _ _ h => h
            simp only [Act.put, List.setIfInBounds_toArray, List.set_cons_zero, List.set_cons_succ]
            have HNd := hid ((Below.refl w7.heap.size w7).drew)
            refine wpAnyH_ready (rs := [0, 5]) (by kernel_rfl) (by simp) ?_
            refine AllReadyH.cons (o := ?oi154) ?hi154 (fun K hK => ?stepA154) (AllReadyH.cons (o := ?oj154) ?hj154 (fun K hK => ?stepB154) AllReadyH.nil)
            case hi154 => simp only [List.getElem?_toArray, List.getElem?_cons_succ, List.getElem?_cons_zero]; rfl
            case hj154 => simp only [List.getElem?_toArray, List.getElem?_cons_succ, List.getElem?_cons_zero]; rfl
            all_goals rw [if_pos (by rfl)]
            all_goals go_simp
            · have HN0 := hid (HNd.out.alloc (Nat.le_refl _) (.cells #[] 41))
              have HL0 := hid (show (w7.drew.alloc (.cells #[] 41)).ownsRow w7.heap.size 41 6 (.slice (some ⟨w7.drew.heap.size, 0, none⟩) 0 0) 0 [] from World.ownsRow_lit w7.drew #[] 0 (Nat.le_refl _) (by unfold maxLen; omega) rfl)
              refine hK.out _ _ (SF.out _ HN0.out) (fun _ => ?_)
              refine wpAnyH_ready (rs := [5]) (by kernel_rfl) (by simp) ?_
              refine AllReadyH.cons (o := ?oi155) ?hi155 (fun K hK => ?step155) AllReadyH.nil
              case hi155 => simp only [List.getElem?_toArray, List.getElem?_cons_succ, List.getElem?_cons_zero]; rfl
              rw [if_pos (by rfl)]
              go_simp
              go_at_call 25
              refine (HT1.out _ HN0.out).mono ?_
              rintro e w5x ⟨v5, rfl, ho5, hb⟩
              obtain ⟨A5, c5, rfl, _, _⟩ := (Sl.of_own ho5).form
              have HN5 := hid (HN0.out.trans (hb.mono HN0.out.size))
              have HL5 := hid (own_below HL0.out hb)
              have HS5 := hid (Sl.of_own ho5)
              clear hb ho5
              refine hK.out _ _ (SF.out _ HN5.out) (fun _ => ?_)
              refine wpAnyH_ready (rs := [6]) (by kernel_rfl) (by simp) ?_
              refine AllReadyH.cons (o := ?oi156) ?hi156 (fun K hK => ?step156) AllReadyH.nil
              case hi156 => simp only [List.getElem?_toArray, List.getElem?_cons_succ, List.getElem?_cons_zero]; rfl
              rw [if_pos (by rfl)]
              refine wp_appG rfl rfl w7.heap.size 41 i0 _ 6 80 Tryz.underlying31 HI.out.1 HI.out.2.1 HI.out.2.2.1 HI.out.2.2.2 rfl (by decide) (by rfl) HL5.out (by rfl) HS5.out (sncells_one _) (by unfold maxLen; omega) (by omega) HN5.out.size ?_
              intro v6 wa ho6 hg6 _
              simp only [Nat.zero_add, List.nil_append] at ho6
              obtain ⟨A6, c6, rfl, _, _⟩ := (Sl.of_own ho6).form
              have HN6 := hid (HN5.out.trans (below_of_grown hg6 HN5.out.size (own_lt HL5.out)))
              have HO6 := hid ho6
              clear ho6 hg6
              refine hK.out _ _ (SF.out _ HN6.out) (fun _ => ?_)
              refine wpAnyH_ready (rs := [11]) (by kernel_rfl) (by simp) ?_
              refine AllReadyH.cons (o := ?oi157) ?hi157 (fun K hK => ?step157) AllReadyH.nil
              case hi157 => simp only [List.getElem?_toArray, List.getElem?_cons_succ, List.getElem?_cons_zero]; rfl
              rw [if_pos (by rfl)]
              go_simp
              go_at_call 25
              refine (HT2.out _ HN6.out).mono ?_
              rintro e w11 ⟨v11, rfl, ho11, hb⟩
              obtain ⟨A11, c11, rfl, _, _⟩ := (Sl.of_own ho11).form
              have HN11 := hid (HN6.out.trans (hb.mono HN6.out.size))
              have HO11 := hid (own_below HO6.out hb)
              have HS11 := hid (Sl.of_own ho11)
              clear hb ho11
              refine hK.out _ _ (SF.out _ HN11.out) (fun _ => ?_)
              refine wpAnyH_ready (rs := [12]) (by kernel_rfl) (by simp) ?_
              refine AllReadyH.cons (o := ?oi158) ?hi158 (fun K hK => ?step158) AllReadyH.nil
              case hi158 => simp only [List.getElem?_toArray, List.getElem?_cons_succ, List.getElem?_cons_zero]; rfl
              rw [if_pos (by rfl)]
              refine wp_appG rfl rfl w7.heap.size 41 i0 _ 6 80 Tryz.underlying31 HI.out.1 HI.out.2.1 HI.out.2.2.1 HI.out.2.2.2 rfl (by decide) (by rfl) HO11.out (by rfl) HS11.out (sncells_one _) (by unfold maxLen; omega) (by omega) HN11.out.size ?_
              intro v12 wb ho12 hg12 _
              obtain ⟨A12, c12, rfl, _, _⟩ := (Sl.of_own ho12).form
              have HN12 := hid (HN11.out.trans (below_of_grown hg12 HN11.out.size (own_lt HO11.out)))
              have CQ := hid (equalSent_c _ _ X.length wb.heap.size X wb (by have h9 := Sl.of_own ho12; rw [← List.flatMap_append, EQ.out, show Y1.length + Y1.length = X.length by rw [← EQ.out, List.length_append]] at h9; rw [← show Y1.length + Y1.length = X.length by rw [← EQ.out, List.length_append]] at h9 ⊢; exact h9) (((Sl.of_own O3.out).below (HV.out.trans (HN12.out.mono HV.out.size)) (Nat.le_refl _)).more (Nat.le_trans HV.out.size HN12.out.size)) (Nat.le_refl _))
              clear ho12 hg12
              refine hK.out _ _ (SF.out _ HN12.out) (fun _ => ?_)
              refine wpAnyH_ready (rs := [14]) (by kernel_rfl) (by simp) ?_
              refine AllReadyH.cons (o := ?oi159) ?hi159 (fun K hK => ?step159) AllReadyH.nil
              case hi159 => simp only [List.getElem?_toArray, List.getElem?_cons_succ, List.getElem?_cons_zero]; rfl
              rw [if_pos (by rfl)]
              go_simp
              go_at_call 13
              refine CQ.out.mono ?_
              rintro e w14 ⟨rfl, hb⟩
              have HN14 := hid (HN12.out.trans (hb.mono HN12.out.size))
              clear hb CQ
              refine hK.out _ _ (SF.out _ HN14.out) (fun _ => ?_)
              refine wpAnyH_take (i := 15) (oi := ?oi160) (v := ?v160) ?hi160 (by kernel_rfl) ?hf160 ?hr160 ?hQ160 (Or.inl ⟨?hw160, ?hy160⟩) (by assumption) ?rest160
              case hi160 => simp only [List.getElem?_toArray, List.getElem?_cons_succ, List.getElem?_cons_zero]; rfl
              case hf160 => kernel_rfl
              case hr160 => kernel_rfl
              case hw160 => rfl
              case hy160 => (intro w hSw; (try dsimp only at hSw); go_simp; all_goals (first | done | with_reducible rfl))
              case hQ160 => exact fun _ _ _ h => h
              simp only [Act.put, List.setIfInBounds_toArray, List.set_cons_zero, List.set_cons_succ]
              refine wpAnyH_done (by kernel_rfl) ?_ _
              go_wp2_with fail
              go_ret
              exact ⟨rfl, HB.out.trans ((HW.out.trans (HN14.out.mono HW.out.size)).mono HB.out.size)⟩
            · go_at_call 25
              refine (HT1.out _ HNd.out).mono ?_
              rintro e w5x ⟨v5, rfl, ho5, hb⟩
              obtain ⟨A5, c5, rfl, _, _⟩ := (Sl.of_own ho5).form
              have HN5a := hid (HNd.out.trans (hb.mono HNd.out.size))
              have HS5a := hid (Sl.of_own ho5)
              clear hb ho5
              refine hK.out _ _ (SF.out _ HN5a.out) (fun _ => ?_)
              refine wpAnyH_ready (rs := [0]) (by kernel_rfl) (by simp) ?_
              refine AllReadyH.cons (o := ?oi161) ?hi161 (fun K hK => ?step161) AllReadyH.nil
              case hi161 => simp only [List.getElem?_toArray, List.getElem?_cons_succ, List.getElem?_cons_zero]; rfl
              rw [if_pos (by rfl)]
              go_simp
              have HN5 := hid (HN5a.out.alloc HN5a.out.size (.cells #[] 41))
              have HL5 := hid (show (w5x.alloc (.cells #[] 41)).ownsRow w7.heap.size 41 6 (.slice (some ⟨w5x.heap.size, 0, none⟩) 0 0) 0 [] from World.ownsRow_lit w5x #[] 0 HN5a.out.size (by unfold maxLen; omega) rfl)
              have HS5 := hid ((HS5a.out.below ((Below.refl w5x.heap.size w5x).alloc (Nat.le_refl _) (.cells #[] 41)) (Nat.le_refl _)).more (show w5x.heap.size ≤ (w5x.alloc (.cells #[] 41)).heap.size by simp))
              refine hK.out _ _ (SF.out _ HN5.out) (fun _ => ?_)
              refine wpAnyH_ready (rs := [6]) (by kernel_rfl) (by simp) ?_
              refine AllReadyH.cons (o := ?oi162) ?hi162 (fun K hK => ?step162) AllReadyH.nil
              case hi162 => simp only [List.getElem?_toArray, List.getElem?_cons_succ, List.getElem?_cons_zero]; rfl
              rw [if_pos (by rfl)]
              refine wp_appG rfl rfl w7.heap.size 41 i0 _ 6 80 Tryz.underlying31 HI.out.1 HI.out.2.1 HI.out.2.2.1 HI.out.2.2.2 rfl (by decide) (by rfl) HL5.out (by rfl) HS5.out (sncells_one _) (by unfold maxLen; omega) (by omega) HN5.out.size ?_
              intro v6 wa ho6 hg6 _
              simp only [Nat.zero_add, List.nil_append] at ho6
              obtain ⟨A6, c6, rfl, _, _⟩ := (Sl.of_own ho6).form
              have HN6 := hid (HN5.out.trans (below_of_grown hg6 HN5.out.size (own_lt HL5.out)))
              have HO6 := hid ho6
              clear ho6 hg6
              refine hK.out _ _ (SF.out _ HN6.out) (fun _ => ?_)
              refine wpAnyH_ready (rs := [11]) (by kernel_rfl) (by simp) ?_
              refine AllReadyH.cons (o := ?oi163) ?hi163 (fun K hK => ?step163) AllReadyH.nil
              case hi163 => simp only [List.getElem?_toArray, List.getElem?_cons_succ, List.getElem?_cons_zero]; rfl
              rw [if_pos (by rfl)]
              go_simp
              go_at_call 25
              refine (HT2.out _ HN6.out).mono ?_
              rintro e w11 ⟨v11, rfl, ho11, hb⟩
              obtain ⟨A11, c11, rfl, _, _⟩ := (Sl.of_own ho11).form
              have HN11 := hid (HN6.out.trans (hb.mono HN6.out.size))
              have HO11 := hid (own_below HO6.out hb)
              have HS11 := hid (Sl.of_own ho11)
              clear hb ho11
              refine hK.out _ _ (SF.out _ HN11.out) (fun _ => ?_)
              refine wpAnyH_ready (rs := [12]) (by kernel_rfl) (by simp) ?_
              refine AllReadyH.cons (o := ?oi164) ?hi164 (fun K hK => ?step164) AllReadyH.nil
              case hi164 => simp only [List.getElem?_toArray, List.getElem?_cons_succ, List.getElem?_cons_zero]; rfl
              rw [if_pos (by rfl)]
              refine wp_appG rfl rfl w7.heap.size 41 i0 _ 6 80 Tryz.underlying31 HI.out.1 HI.out.2.1 HI.out.2.2.1 HI.out.2.2.2 rfl (by decide) (by rfl) HO11.out (by rfl) HS11.out (sncells_one _) (by unfold maxLen; omega) (by omega) HN11.out.size ?_
              intro v12 wb ho12 hg12 _
              obtain ⟨A12, c12, rfl, _, _⟩ := (Sl.of_own ho12).form
              have HN12 := hid (HN11.out.trans (below_of_grown hg12 HN11.out.size (own_lt HO11.out)))
              have CQ := hid (equalSent_c _ _ X.length wb.heap.size X wb (by have h9 := Sl.of_own ho12; rw [← List.flatMap_append, EQ.out, show Y1.length + Y1.length = X.length by rw [← EQ.out, List.length_append]] at h9; rw [← show Y1.length + Y1.length = X.length by rw [← EQ.out, List.length_append]] at h9 ⊢; exact h9) (((Sl.of_own O3.out).below (HV.out.trans (HN12.out.mono HV.out.size)) (Nat.le_refl _)).more (Nat.le_trans HV.out.size HN12.out.size)) (Nat.le_refl _))
              clear ho12 hg12
              refine hK.out _ _ (SF.out _ HN12.out) (fun _ => ?_)
              refine wpAnyH_ready (rs := [14]) (by kernel_rfl) (by simp) ?_
              refine AllReadyH.cons (o := ?oi165) ?hi165 (fun K hK => ?step165) AllReadyH.nil
              case hi165 => simp only [List.getElem?_toArray, List.getElem?_cons_succ, List.getElem?_cons_zero]; rfl
              rw [if_pos (by rfl)]
              go_simp
              go_at_call 13
              refine CQ.out.mono ?_
              rintro e w14 ⟨rfl, hb⟩
              have HN14 := hid (HN12.out.trans (hb.mono HN12.out.size))
              clear hb CQ
              refine hK.out _ _ (SF.out _ HN14.out) (fun _ => ?_)
              refine wpAnyH_take (i := 15) (oi := ?oi166) (v := ?v166) ?hi166 (by kernel_rfl) ?hf166 ?hr166 ?hQ166 (Or.inl ⟨?hw166, ?hy166⟩) (by assumption) ?rest166
              case hi166 => simp only [List.getElem?_toArray, List.getElem?_cons_succ, List.getElem?_cons_zero]; rfl
              case hf166 => kernel_rfl
              case hr166 => kernel_rfl
              case hw166 => rfl
              case hy166 => (intro w hSw; (try dsimp only at hSw); go_simp; all_goals (first | done | with_reducible rfl))
              case hQ166 => exact fun _ _ _ h => h
              simp only [Act.put, List.setIfInBounds_toArray, List.set_cons_zero, List.set_cons_succ]
              refine wpAnyH_done (by kernel_rfl) ?_ _
              go_wp2_with fail
              go_ret
              exact ⟨rfl, HB.out.trans ((HW.out.trans (HN14.out.mono HW.out.size)).mono HB.out.size)⟩
      · obtain ⟨g, rfl⟩ : ∃ g, Ar = some ⟨g, 0, none⟩ := by
          rcases hAr with ⟨_, h, _⟩ | h
          · omega
          · exact h
        have hkn : l.length / 2 < l.length := by omega
        have hck : ¬ cr = l.length / 2 := by omega
        skip
        have HT1 := hid (fun (W : World) (hW : Below w7.heap.size w7 W) => CJ.out 0 (l.length / 2) (some ⟨g, 0, none⟩) cr (l.take (l.length / 2)) W (HW.out.trans (hW.mono HW.out.size)) ⟨by have h9 := (RR.out W (HW.out.trans (hW.mono HW.out.size))).1.cutN (k := l.length / 2) (Nat.le_of_lt hkn); rwa [flat_take rcells 4 rcells_len] at h9, fun x hx => (RR.out W (HW.out.trans (hW.mono HW.out.size))).2 x (List.mem_of_mem_take hx)⟩)
        have HT2 := hid (fun (W : World) (hW : Below w7.heap.size w7 W) => CJ.out 0 (l.length - l.length / 2) (some ⟨g, 0 + l.length / 2 * 4, none⟩) (cr - l.length / 2) (l.drop (l.length / 2)) W (HW.out.trans (hW.mono HW.out.size)) ⟨by have h9 := (RR.out W (HW.out.trans (hW.mono HW.out.size))).1.from_ (k := l.length / 2) (Nat.le_of_lt hkn); rwa [flat_drop rcells 4 rcells_len] at h9, fun x hx => (RR.out W (HW.out.trans (hW.mono HW.out.size))).2 x (List.mem_of_mem_drop hx)⟩)
        generalize runX L H q (l.take (l.length / 2)) = Y1 at *
        generalize runX L H q (l.drop (l.length / 2)) = Y2 at *
        generalize hll : l.length = m at *
        generalize hkk : m / 2 = k at *
        replace hll := hid hll
        replace hkk := hid hkk
        have hb1 : (k : Int) ≤ (m : Int) := by omega
        have hb2 : (k : Int) ≤ (cr : Int) := by omega
        have hb3 : (0 : Int) ≤ (k : Int) := by omega
        have hb4 : k ≤ m := by omega
        simp only [Nat.zero_add] at HT2
        go_wp2_with fail
        refine wp_region_held_drew (S := fun w' : World => w'.cell? ⟨bb, 0, none⟩ = some (.slice A1 n1 k1) ∧ w'.cell? ⟨bb, 1, none⟩ = some (.slice A2 n2 k2) ∧ w'.cell? ⟨bb, 2, none⟩ = some (.int .i64 q)) (by kernel_rfl) ⟨d0, d1, d2⟩ (fun hS => ?_)
        refine wpAnyH_take (i := 1) (oi := ?oi167) (v := ?v167) ?hi167 (by kernel_rfl) ?hf167 ?hr167 ?hQ167 (Or.inl ⟨?hw167, ?hy167⟩) (by assumption) ?rest167
        case hi167 => simp only [List.getElem?_toArray, List.getElem?_cons_succ, List.getElem?_cons_zero]; rfl
        case hf167 => kernel_rfl
        case hr167 => kernel_rfl
        case hw167 => rfl
        case hy167 => (intro w hSw; (try dsimp only at hSw); go_simp; all_goals (first | done | with_reducible rfl))
        case hQ167 => exact fun _ _ _ h => h
        simp only [Act.put, List.setIfInBounds_toArray, List.set_cons_zero, List.set_cons_succ]
        refine wpAnyH_take (i := 2) (oi := ?oi168) (v := ?v168) ?hi168 (by kernel_rfl) ?hf168 ?hr168 ?hQ168 (Or.inl ⟨?hw168, ?hy168⟩) (by assumption) ?rest168
        case hi168 => simp only [List.getElem?_toArray, List.getElem?_cons_succ, List.getElem?_cons_zero]; rfl
        case hf168 => kernel_rfl
        case hr168 => kernel_rfl
        case hw168 => rfl
        case hy168 => (intro w hSw; (try dsimp only at hSw); go_simp; all_goals (first | done | with_reducible rfl))
        case hQ168 => exact fun _ _ _ h => h
        simp only [Act.put, List.setIfInBounds_toArray, List.set_cons_zero, List.set_cons_succ]
        refine wpAnyH_take (i := 3) (oi := ?oi169) (v := ?v169) ?hi169 (by kernel_rfl) ?hf169 ?hr169 ?hQ169 (Or.inl ⟨?hw169, ?hy169⟩) (by assumption) ?rest169
        case hi169 => simp only [List.getElem?_toArray, List.getElem?_cons_succ, List.getElem?_cons_zero]; rfl
        case hf169 => kernel_rfl
        case hr169 => kernel_rfl
        case hw169 => rfl
        case hy169 => (intro w hSw; (try dsimp only at hSw); go_simp; all_goals (first | done | with_reducible rfl))
        case hQ169 => exact fun _ _ _ h => h
        simp only [Act.put, List.setIfInBounds_toArray, List.set_cons_zero, List.set_cons_succ]
        refine wpAnyH_take (i := 4) (oi := ?oi170) (v := ?v170) ?hi170 (by kernel_rfl) ?hf170 ?hr170 ?hQ170 (Or.inl ⟨?hw170, ?hy170⟩) (by assumption) ?rest170
        case hi170 => simp only [List.getElem?_toArray, List.getElem?_cons_succ, List.getElem?_cons_zero]; rfl
        case hf170 => kernel_rfl
        case hr170 => kernel_rfl
        case hw170 => rfl
        case hy170 => (intro w hSw; (try dsimp only at hSw); go_simp; all_goals (first | done | with_reducible rfl))
        case hQ170 => exact fun _ _ _ h => h
        simp only [Act.put, List.setIfInBounds_toArray, List.set_cons_zero, List.set_cons_succ]
        refine wpAnyH_take (i := 7) (oi := ?oi171) (v := ?v171) ?hi171 (by kernel_rfl) ?hf171 ?hr171 ?hQ171 (Or.inl ⟨?hw171, ?hy171⟩) (by assumption) ?rest171
        case hi171 => simp only [List.getElem?_toArray, List.getElem?_cons_succ, List.getElem?_cons_zero]; rfl
        case hf171 => kernel_rfl
        case hr171 => kernel_rfl
        case hw171 => rfl
        case hy171 => (intro w hSw; (try dsimp only at hSw); go_simp; all_goals (first | done | with_reducible rfl))
        case hQ171 => exact fun _ _ _ h => h
        simp only [Act.put, List.setIfInBounds_toArray, List.set_cons_zero, List.set_cons_succ]
        refine wpAnyH_take (i := 8) (oi := ?oi172) (v := ?v172) ?hi172 (by kernel_rfl) ?hf172 ?hr172 ?hQ172 (Or.inl ⟨?hw172, ?hy172⟩) (by assumption) ?rest172
        case hi172 => simp only [List.getElem?_toArray, List.getElem?_cons_succ, List.getElem?_cons_zero]; rfl
        case hf172 => kernel_rfl
        case hr172 => kernel_rfl
        case hw172 => rfl
        case hy172 => (intro w hSw; (try dsimp only at hSw); go_simp; all_goals (first | done | with_reducible rfl))
        case hQ172 => exact fun _ _ _ h => h
        simp only [Act.put, List.setIfInBounds_toArray, List.set_cons_zero, List.set_cons_succ]
        refine wpAnyH_take (i := 9) (oi := ?oi173) (v := ?v173) ?hi173 (by kernel_rfl) ?hf173 ?hr173 ?hQ173 (Or.inl ⟨?hw173, ?hy173⟩) (by assumption) ?rest173
        case hi173 => simp only [List.getElem?_toArray, List.getElem?_cons_succ, List.getElem?_cons_zero]; rfl
        case hf173 => kernel_rfl
        case hr173 => kernel_rfl
        case hw173 => rfl
        case hy173 => (intro w hSw; (try dsimp only at hSw); go_simp; all_goals (first | done | with_reducible rfl))
        case hQ173 => exact fun _ _ _ h => h
        simp only [Act.put, List.setIfInBounds_toArray, List.set_cons_zero, List.set_cons_succ]
        refine wpAnyH_take (i := 10) (oi := ?oi174) (v := ?v174) ?hi174 (by kernel_rfl) ?hf174 ?hr174 ?hQ174 (Or.inl ⟨?hw174, ?hy174⟩) (by assumption) ?rest174
        case hi174 => simp only [List.getElem?_toArray, List.getElem?_cons_succ, List.getElem?_cons_zero]; rfl
        case hf174 => kernel_rfl
        case hr174 => kernel_rfl
        case hw174 => rfl
        case hy174 => (intro w hSw; (try dsimp only at hSw); go_simp; all_goals (first | done | with_reducible rfl))
        case hQ174 => exact fun _ _ _ h => h
        simp only [Act.put, List.setIfInBounds_toArray, List.set_cons_zero, List.set_cons_succ]
        refine wpAnyH_take (i := 13) (oi := ?oi175) (v := ?v175) ?hi175 (by kernel_rfl) ?hf175 ?hr175 ?hQ175 (Or.inl ⟨?hw175, ?hy175⟩) (by assumption) ?rest175
        case hi175 => simp only [List.getElem?_toArray, List.getElem?_cons_succ, List.getElem?_cons_zero]; rfl
        case hf175 => kernel_rfl
        case hr175 => kernel_rfl
        case hw175 => rfl
        case hy175 => (intro w hSw; (try dsimp only at hSw); go_simp; all_goals (first | done | with_reducible rfl))
        case hQ175 => exact fun _ _ _ h => h
        simp only [Act.put, List.setIfInBounds_toArray, List.set_cons_zero, List.set_cons_succ]
        have HNd := hid ((Below.refl w7.heap.size w7).drew)
        refine wpAnyH_ready (rs := [0, 5]) (by kernel_rfl) (by simp) ?_
        refine AllReadyH.cons (o := ?oi176) ?hi176 (fun K hK => ?stepA176) (AllReadyH.cons (o := ?oj176) ?hj176 (fun K hK => ?stepB176) AllReadyH.nil)
        case hi176 => simp only [List.getElem?_toArray, List.getElem?_cons_succ, List.getElem?_cons_zero]; rfl
        case hj176 => simp only [List.getElem?_toArray, List.getElem?_cons_succ, List.getElem?_cons_zero]; rfl
        all_goals rw [if_pos (by rfl)]
        all_goals go_simp
        · have HN0 := hid (HNd.out.alloc (Nat.le_refl _) (.cells #[] 41))
          have HL0 := hid (show (w7.drew.alloc (.cells #[] 41)).ownsRow w7.heap.size 41 6 (.slice (some ⟨w7.drew.heap.size, 0, none⟩) 0 0) 0 [] from World.ownsRow_lit w7.drew #[] 0 (Nat.le_refl _) (by unfold maxLen; omega) rfl)
          refine hK.out _ _ (SF.out _ HN0.out) (fun _ => ?_)
          refine wpAnyH_ready (rs := [5]) (by kernel_rfl) (by simp) ?_
          refine AllReadyH.cons (o := ?oi177) ?hi177 (fun K hK => ?step177) AllReadyH.nil
          case hi177 => simp only [List.getElem?_toArray, List.getElem?_cons_succ, List.getElem?_cons_zero]; rfl
          rw [if_pos (by rfl)]
          go_simp
          go_at_call 25
          refine (HT1.out _ HN0.out).mono ?_
          rintro e w5x ⟨v5, rfl, ho5, hb⟩
          obtain ⟨A5, c5, rfl, _, _⟩ := (Sl.of_own ho5).form
          have HN5 := hid (HN0.out.trans (hb.mono HN0.out.size))
          have HL5 := hid (own_below HL0.out hb)
          have HS5 := hid (Sl.of_own ho5)
          clear hb ho5
          refine hK.out _ _ (SF.out _ HN5.out) (fun _ => ?_)
          refine wpAnyH_ready (rs := [6]) (by kernel_rfl) (by simp) ?_
          refine AllReadyH.cons (o := ?oi178) ?hi178 (fun K hK => ?step178) AllReadyH.nil
          case hi178 => simp only [List.getElem?_toArray, List.getElem?_cons_succ, List.getElem?_cons_zero]; rfl
          rw [if_pos (by rfl)]
          refine wp_appG rfl rfl w7.heap.size 41 i0 _ 6 80 Tryz.underlying31 HI.out.1 HI.out.2.1 HI.out.2.2.1 HI.out.2.2.2 rfl (by decide) (by rfl) HL5.out (by rfl) HS5.out (sncells_one _) (by unfold maxLen; omega) (by omega) HN5.out.size ?_
          intro v6 wa ho6 hg6 _
          simp only [Nat.zero_add, List.nil_append] at ho6
          obtain ⟨A6, c6, rfl, _, _⟩ := (Sl.of_own ho6).form
          have HN6 := hid (HN5.out.trans (below_of_grown hg6 HN5.out.size (own_lt HL5.out)))
          have HO6 := hid ho6
          clear ho6 hg6
          refine hK.out _ _ (SF.out _ HN6.out) (fun _ => ?_)
          refine wpAnyH_ready (rs := [11]) (by kernel_rfl) (by simp) ?_
          refine AllReadyH.cons (o := ?oi179) ?hi179 (fun K hK => ?step179) AllReadyH.nil
          case hi179 => simp only [List.getElem?_toArray, List.getElem?_cons_succ, List.getElem?_cons_zero]; rfl
          rw [if_pos (by rfl)]
          go_simp
          go_at_call 25
          refine (HT2.out _ HN6.out).mono ?_
          rintro e w11 ⟨v11, rfl, ho11, hb⟩
          obtain ⟨A11, c11, rfl, _, _⟩ := (Sl.of_own ho11).form
          have HN11 := hid (HN6.out.trans (hb.mono HN6.out.size))
          have HO11 := hid (own_below HO6.out hb)
          have HS11 := hid (Sl.of_own ho11)
          clear hb ho11
          refine hK.out _ _ (SF.out _ HN11.out) (fun _ => ?_)
          refine wpAnyH_ready (rs := [12]) (by kernel_rfl) (by simp) ?_
          refine AllReadyH.cons (o := ?oi180) ?hi180 (fun K hK => ?step180) AllReadyH.nil
          case hi180 => simp only [List.getElem?_toArray, List.getElem?_cons_succ, List.getElem?_cons_zero]; rfl
          rw [if_pos (by rfl)]
          refine wp_appG rfl rfl w7.heap.size 41 i0 _ 6 80 Tryz.underlying31 HI.out.1 HI.out.2.1 HI.out.2.2.1 HI.out.2.2.2 rfl (by decide) (by rfl) HO11.out (by rfl) HS11.out (sncells_one _) (by unfold maxLen; omega) (by omega) HN11.out.size ?_
          intro v12 wb ho12 hg12 _
          obtain ⟨A12, c12, rfl, _, _⟩ := (Sl.of_own ho12).form
          have HN12 := hid (HN11.out.trans (below_of_grown hg12 HN11.out.size (own_lt HO11.out)))
          have CQ := hid (equalSent_c _ _ X.length wb.heap.size X wb (by have h9 := Sl.of_own ho12; rw [← List.flatMap_append, EQ.out, show Y1.length + Y2.length = X.length by rw [← EQ.out, List.length_append]] at h9; rw [← show Y1.length + Y2.length = X.length by rw [← EQ.out, List.length_append]] at h9 ⊢; exact h9) (((Sl.of_own O3.out).below (HV.out.trans (HN12.out.mono HV.out.size)) (Nat.le_refl _)).more (Nat.le_trans HV.out.size HN12.out.size)) (Nat.le_refl _))
          clear ho12 hg12
          refine hK.out _ _ (SF.out _ HN12.out) (fun _ => ?_)
          refine wpAnyH_ready (rs := [14]) (by kernel_rfl) (by simp) ?_
          refine AllReadyH.cons (o := ?oi181) ?hi181 (fun K hK => ?step181) AllReadyH.nil
          case hi181 => simp only [List.getElem?_toArray, List.getElem?_cons_succ, List.getElem?_cons_zero]; rfl
          rw [if_pos (by rfl)]
          go_simp
          go_at_call 13
          refine CQ.out.mono ?_
          rintro e w14 ⟨rfl, hb⟩
          have HN14 := hid (HN12.out.trans (hb.mono HN12.out.size))
          clear hb CQ
          refine hK.out _ _ (SF.out _ HN14.out) (fun _ => ?_)
          refine wpAnyH_take (i := 15) (oi := ?oi182) (v := ?v182) ?hi182 (by kernel_rfl) ?hf182 ?hr182 ?hQ182 (Or.inl ⟨?hw182, ?hy182⟩) (by assumption) ?rest182
          case hi182 => simp only [List.getElem?_toArray, List.getElem?_cons_succ, List.getElem?_cons_zero]; rfl
          case hf182 => kernel_rfl
          case hr182 => kernel_rfl
          case hw182 => rfl
          case hy182 => (intro w hSw; (try dsimp only at hSw); go_simp; all_goals (first | done | with_reducible rfl))
          case hQ182 => exact fun _ _ _ h => h
          simp only [Act.put, List.setIfInBounds_toArray, List.set_cons_zero, List.set_cons_succ]
          refine wpAnyH_done (by kernel_rfl) ?_ _
          go_wp2_with fail
          go_ret
          exact ⟨rfl, HB.out.trans ((HW.out.trans (HN14.out.mono HW.out.size)).mono HB.out.size)⟩
        · go_at_call 25
          refine (HT1.out _ HNd.out).mono ?_
          rintro e w5x ⟨v5, rfl, ho5, hb⟩
          obtain ⟨A5, c5, rfl, _, _⟩ := (Sl.of_own ho5).form
          have HN5a := hid (HNd.out.trans (hb.mono HNd.out.size))
          have HS5a := hid (Sl.of_own ho5)
          clear hb ho5
          refine hK.out _ _ (SF.out _ HN5a.out) (fun _ => ?_)
          refine wpAnyH_ready (rs := [0]) (by kernel_rfl) (by simp) ?_
          refine AllReadyH.cons (o := ?oi183) ?hi183 (fun K hK => ?step183) AllReadyH.nil
          case hi183 => simp only [List.getElem?_toArray, List.getElem?_cons_succ, List.getElem?_cons_zero]; rfl
          rw [if_pos (by rfl)]
          go_simp
          have HN5 := hid (HN5a.out.alloc HN5a.out.size (.cells #[] 41))
          have HL5 := hid (show (w5x.alloc (.cells #[] 41)).ownsRow w7.heap.size 41 6 (.slice (some ⟨w5x.heap.size, 0, none⟩) 0 0) 0 [] from World.ownsRow_lit w5x #[] 0 HN5a.out.size (by unfold maxLen; omega) rfl)
          have HS5 := hid ((HS5a.out.below ((Below.refl w5x.heap.size w5x).alloc (Nat.le_refl _) (.cells #[] 41)) (Nat.le_refl _)).more (show w5x.heap.size ≤ (w5x.alloc (.cells #[] 41)).heap.size by simp))
          refine hK.out _ _ (SF.out _ HN5.out) (fun _ => ?_)
          refine wpAnyH_ready (rs := [6]) (by kernel_rfl) (by simp) ?_
          refine AllReadyH.cons (o := ?oi184) ?hi184 (fun K hK => ?step184) AllReadyH.nil
          case hi184 => simp only [List.getElem?_toArray, List.getElem?_cons_succ, List.getElem?_cons_zero]; rfl
          rw [if_pos (by rfl)]
          refine wp_appG rfl rfl w7.heap.size 41 i0 _ 6 80 Tryz.underlying31 HI.out.1 HI.out.2.1 HI.out.2.2.1 HI.out.2.2.2 rfl (by decide) (by rfl) HL5.out (by rfl) HS5.out (sncells_one _) (by unfold maxLen; omega) (by omega) HN5.out.size ?_
          intro v6 wa ho6 hg6 _
          simp only [Nat.zero_add, List.nil_append] at ho6
          obtain ⟨A6, c6, rfl, _, _⟩ := (Sl.of_own ho6).form
          have HN6 := hid (HN5.out.trans (below_of_grown hg6 HN5.out.size (own_lt HL5.out)))
          have HO6 := hid ho6
          clear ho6 hg6
          refine hK.out _ _ (SF.out _ HN6.out) (fun _ => ?_)
          refine wpAnyH_ready (rs := [11]) (by kernel_rfl) (by simp) ?_
          refine AllReadyH.cons (o := ?oi185) ?hi185 (fun K hK => ?step185) AllReadyH.nil
          case hi185 => simp only [List.getElem?_toArray, List.getElem?_cons_succ, List.getElem?_cons_zero]; rfl
          rw [if_pos (by rfl)]
          go_simp
          go_at_call 25
          refine (HT2.out _ HN6.out).mono ?_
          rintro e w11 ⟨v11, rfl, ho11, hb⟩
          obtain ⟨A11, c11, rfl, _, _⟩ := (Sl.of_own ho11).form
          have HN11 := hid (HN6.out.trans (hb.mono HN6.out.size))
          have HO11 := hid (own_below HO6.out hb)
          have HS11 := hid (Sl.of_own ho11)
          clear hb ho11
          refine hK.out _ _ (SF.out _ HN11.out) (fun _ => ?_)
          refine wpAnyH_ready (rs := [12]) (by kernel_rfl) (by simp) ?_
          refine AllReadyH.cons (o := ?oi186) ?hi186 (fun K hK => ?step186) AllReadyH.nil
          case hi186 => simp only [List.getElem?_toArray, List.getElem?_cons_succ, List.getElem?_cons_zero]; rfl
          rw [if_pos (by rfl)]
          refine wp_appG rfl rfl w7.heap.size 41 i0 _ 6 80 Tryz.underlying31 HI.out.1 HI.out.2.1 HI.out.2.2.1 HI.out.2.2.2 rfl (by decide) (by rfl) HO11.out (by rfl) HS11.out (sncells_one _) (by unfold maxLen; omega) (by omega) HN11.out.size ?_
          intro v12 wb ho12 hg12 _
          obtain ⟨A12, c12, rfl, _, _⟩ := (Sl.of_own ho12).form
          have HN12 := hid (HN11.out.trans (below_of_grown hg12 HN11.out.size (own_lt HO11.out)))
          have CQ := hid (equalSent_c _ _ X.length wb.heap.size X wb (by have h9 := Sl.of_own ho12; rw [← List.flatMap_append, EQ.out, show Y1.length + Y2.length = X.length by rw [← EQ.out, List.length_append]] at h9; rw [← show Y1.length + Y2.length = X.length by rw [← EQ.out, List.length_append]] at h9 ⊢; exact h9) (((Sl.of_own O3.out).below (HV.out.trans (HN12.out.mono HV.out.size)) (Nat.le_refl _)).more (Nat.le_trans HV.out.size HN12.out.size)) (Nat.le_refl _))
          clear ho12 hg12
          refine hK.out _ _ (SF.out _ HN12.out) (fun _ => ?_)
          refine wpAnyH_ready (rs := [14]) (by kernel_rfl) (by simp) ?_
          refine AllReadyH.cons (o := ?oi187) ?hi187 (fun K hK => ?step187) AllReadyH.nil
          case hi187 => simp only [List.getElem?_toArray, List.getElem?_cons_succ, List.getElem?_cons_zero]; rfl
          rw [if_pos (by rfl)]
          go_simp
          go_at_call 13
          refine CQ.out.mono ?_
          rintro e w14 ⟨rfl, hb⟩
          have HN14 := hid (HN12.out.trans (hb.mono HN12.out.size))
          clear hb CQ
          refine hK.out _ _ (SF.out _ HN14.out) (fun _ => ?_)
          refine wpAnyH_take (i := 15) (oi := ?oi188) (v := ?v188) ?hi188 (by kernel_rfl) ?hf188 ?hr188 ?hQ188 (Or.inl ⟨?hw188, ?hy188⟩) (by assumption) ?rest188
          case hi188 => simp only [List.getElem?_toArray, List.getElem?_cons_succ, List.getElem?_cons_zero]; rfl
          case hf188 => kernel_rfl
          case hr188 => kernel_rfl
          case hw188 => rfl
          case hy188 => (intro w hSw; (try dsimp only at hSw); go_simp; all_goals (first | done | with_reducible rfl))
          case hQ188 => exact fun _ _ _ h => h
          simp only [Act.put, List.setIfInBounds_toArray, List.set_cons_zero, List.set_cons_succ]
          refine wpAnyH_done (by kernel_rfl) ?_ _
          go_wp2_with fail
          go_ret
          exact ⟨rfl, HB.out.trans ((HW.out.trans (HN14.out.mono HW.out.size)).mono HB.out.size)⟩
end Go.Proofs.YtioegkcekbkblaaGreat
