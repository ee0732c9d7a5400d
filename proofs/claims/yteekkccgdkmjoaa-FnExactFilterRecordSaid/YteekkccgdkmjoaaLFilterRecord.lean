/-
  WALK: the law FnExactFilterRecord. By gen_any.py.
-/
import Derived.Deep.Cut
import Derived.Test.YteekkccgdkmjoaaFR4
import Derived.Test.YteekkccgdkmjoaaApp
import Derived.Test.YteekkccgdkmjoaaKFlts
namespace Go.Proofs.Yteekkccgdkmjoaa
open Go.RowKit Go.Proofs.Yteekkccgdkmjoaa.Nm
set_option linter.unusedSimpArgs false
set_option linter.unusedVariables false

set_option maxHeartbeats 16000000 in
set_option maxRecDepth 100000 in
theorem walk_FnExactFilterRecord (A0 : Option Addr) (n0 c0 : Nat) (d0 : List Flt) (nm1 : ByteArray) (lv1 : Int) (tx1 : ByteArray) (sq1 : Int) (w : World) (t0 : FltsRaw w w.heap.size A0 n0 c0 d0) (mnm1 : nm1.size ≤ maxLen) (mtx1 : tx1.size ≤ maxLen) :
    Calls Try.prog 3 #[.slice A0 n0 c0, .agg #[.string nm1, .int .i64 lv1, .string tx1, .int .i64 sq1]] w (BoolPost w true) := by
  have T0 := hid t0
  clear t0
  have HB := hid (Below.refl w.heap.size w)
  have hr : Rows (w.alloc (.cells #[.string nm1, .int .i64 lv1, .string tx1, .int .i64 sq1] 24)) w.heap.size [bxRow 24 4 (w.heap.size) [.string nm1, .int .i64 lv1, .string tx1, .int .i64 sq1]] := by have h := Rows.box w #[.string nm1, .int .i64 lv1, .string tx1, .int .i64 sq1] 24 4 rfl; simpa using h
  have hb : Below w.heap.size w (w.alloc (.cells #[.string nm1, .int .i64 lv1, .string tx1, .int .i64 sq1] 24)) := (Below.refl _ _).alloc (Nat.le_refl _) _
  have HR := hid hr
  replace HB := hid (HB.out.trans (hb.mono HB.out.size))
  clear hb hr
  have da10 := (Rows.bc (HR.out) 0 rfl).1
  have da11 := (Rows.bc (HR.out) 1 rfl).1
  have da12 := (Rows.bc (HR.out) 2 rfl).1
  have da13 := (Rows.bc (HR.out) 3 rfl).1
  have ta1 := (Rows.bc (HR.out) 0 rfl).2
  go_enter Try.func3, Try.ntmps3
  go_wp2_with fail
  refine (szFltsY_c A0 n0 c0 d0 w.heap.size _ _ (T0.out.below HB.out (Nat.le_refl _)) HB.out.size (by omega) (by omega)).mono ?_
  rintro e w1 ⟨r0, rfl, hb, hr⟩
  replace HR := hid (HR.out.below hb)
  replace HB := hid (HB.out.trans (hb.mono HB.out.size))
  clear hb
  clear da10 da11 da12 da13 ta1
  have da10 := (Rows.bc (HR.out) 0 rfl).1
  have da11 := (Rows.bc (HR.out) 1 rfl).1
  have da12 := (Rows.bc (HR.out) 2 rfl).1
  have da13 := (Rows.bc (HR.out) 3 rfl).1
  have ta1 := (Rows.bc (HR.out) 0 rfl).2
  rcases hr with hr | ⟨hr0, hr1, hfit⟩
  · go_wp2_with fail
    go_ret
    exact ⟨rfl, HB.out⟩
  have F0 := hid hfit
  clear hfit
  go_wp2_with fail
  refine (szRecord_c nm1 lv1 tx1 sq1 _ _ mnm1 mtx1 (by omega) (by omega)).mono ?_
  rintro e w2 ⟨r1, rfl, hb, hr⟩
  replace HR := hid (HR.out.below hb)
  replace HB := hid (HB.out.trans (hb.mono HB.out.size))
  clear hb
  clear da10 da11 da12 da13 ta1
  have da10 := (Rows.bc (HR.out) 0 rfl).1
  have da11 := (Rows.bc (HR.out) 1 rfl).1
  have da12 := (Rows.bc (HR.out) 2 rfl).1
  have da13 := (Rows.bc (HR.out) 3 rfl).1
  have ta1 := (Rows.bc (HR.out) 0 rfl).2
  rcases hr with hr | ⟨hr0, hr1, znm1, ztx1⟩
  · go_wp2_with fail
    go_ret
    exact ⟨rfl, HB.out⟩
  have cS : ∀ (W : World) (v0 : Value) (h0 : FltsIn W W.heap.size v0 d0), Calls Try.prog 7 #[v0, .agg #[.string nm1, .int .i64 lv1, .string tx1, .int .i64 sq1]] W (fun e w2 => e = .returned (.tuple #[.agg #[.string (oS nm1 (fX d0 nm1 tx1 lv1 sq1)), .int .i64 (oL (fX d0 nm1 tx1 lv1 sq1)), .string (oS tx1 (fX d0 nm1 tx1 lv1 sq1)), .int .i64 (oI sq1 (fX d0 nm1 tx1 lv1 sq1))], .bool ((fX d0 nm1 tx1 lv1 sq1).isSome)]) ∧ Below W.heap.size W w2) := fun W v0 h0 => specFilterX_c nm1 tx1 lv1 sq1 h0 znm1 ztx1
  have cI : ∀ (W : World) (v0 : Value) (h0 : FltsIn W W.heap.size v0 d0), Calls Try.prog 10 #[v0, .agg #[.string nm1, .int .i64 lv1, .string tx1, .int .i64 sq1]] W (fun e w2 => e = .returned (.tuple #[.agg #[.string (oS nm1 (fX d0 nm1 tx1 lv1 sq1)), .int .i64 (oL (fX d0 nm1 tx1 lv1 sq1)), .string (oS tx1 (fX d0 nm1 tx1 lv1 sq1)), .int .i64 (oI sq1 (fX d0 nm1 tx1 lv1 sq1))], .bool ((fX d0 nm1 tx1 lv1 sq1).isSome)]) ∧ Below W.heap.size W w2) := fun W v0 h0 => implFilterX_c nm1 tx1 lv1 sq1 h0 znm1 ztx1
  generalize oS nm1 (fX d0 nm1 tx1 lv1 sq1) = Z0nm at cS cI
  generalize oL (fX d0 nm1 tx1 lv1 sq1) = Z0lv at cS cI
  generalize oS tx1 (fX d0 nm1 tx1 lv1 sq1) = Z0tx at cS cI
  generalize oI sq1 (fX d0 nm1 tx1 lv1 sq1) = Z0sq at cS cI
  generalize (fX d0 nm1 tx1 lv1 sq1).isSome = X1 at cS cI
  have hX1 : (X1 == X1) = true := by simp
  replace cS := hid cS
  replace cI := hid cI
  go_wp2_with fail
  go_cut [6, 7] from 11 (fun s6 s7 wc => ∃ (bb : Nat) (rss0 : List Row) (vs0 : Value), s6 = .pointer (some ⟨bb, 0, none⟩) ∧ s7 = .bool X1 ∧ FltsR rss0 vs0 d0 ∧ Rows wc w.heap.size ([bxRow 27 4 (bb) [.string Z0nm, .int .i64 Z0lv, .string Z0tx, .int .i64 Z0sq]] ++ (rss0 ++ ([bxRow 24 4 (w.heap.size) [.string nm1, .int .i64 lv1, .string tx1, .int .i64 sq1]]))) ∧ Below w.heap.size w wc)
  case first =>
    refine wp_region_held_drew (S := (fun w' : World => w'.cell? ⟨w.heap.size, 0, none⟩ = some (.string nm1) ∧ w'.cell? ⟨w.heap.size, 1, none⟩ = some (.int .i64 lv1) ∧ w'.cell? ⟨w.heap.size, 2, none⟩ = some (.string tx1) ∧ w'.cell? ⟨w.heap.size, 3, none⟩ = some (.int .i64 sq1))) (by kernel_rfl) ⟨da10, da11, da12, da13⟩ (fun hS => ?_)
    refine wpAnyH_take (i := 0) (oi := ?oi101) (v := ?v101) ?hi101 (by kernel_rfl) ?hf101 ?hr101 ?hQ101 (Or.inl ⟨?hw101, ?hy101⟩) (by assumption) ?rest101
    case hi101 => simp only [List.getElem?_toArray, List.getElem?_cons_succ, List.getElem?_cons_zero]; rfl
    case hf101 => kernel_rfl
    case hr101 => kernel_rfl
    case hw101 => rfl
    case hy101 => (intro w hSw; (try dsimp only at hSw); go_simp; all_goals (first | done | with_reducible rfl))
    case hQ101 => exact fun _ _ _ h => h
    simp only [Act.put, List.setIfInBounds_toArray, List.set_cons_zero, List.set_cons_succ]
    refine wpAnyH_take (i := 2) (oi := ?oi102) (v := ?v102) ?hi102 (by kernel_rfl) ?hf102 ?hr102 ?hQ102 (Or.inl ⟨?hw102, ?hy102⟩) (by assumption) ?rest102
    case hi102 => simp only [List.getElem?_toArray, List.getElem?_cons_succ, List.getElem?_cons_zero]; rfl
    case hf102 => kernel_rfl
    case hr102 => kernel_rfl
    case hw102 => rfl
    case hy102 => (intro w hSw; (try dsimp only at hSw); go_simp; all_goals (first | done | with_reducible rfl))
    case hQ102 => exact fun _ _ _ h => h
    simp only [Act.put, List.setIfInBounds_toArray, List.set_cons_zero, List.set_cons_succ]
    replace HR := hid (HR.out.below ((Below.refl w2.heap.size w2).drew))
    replace HB := hid HB.out.drew
    clear da10 da11 da12 da13 ta1
    generalize w2.drew = w3 at *
    have da10 := (Rows.bc (HR.out) 0 rfl).1
    have da11 := (Rows.bc (HR.out) 1 rfl).1
    have da12 := (Rows.bc (HR.out) 2 rfl).1
    have da13 := (Rows.bc (HR.out) 3 rfl).1
    have ta1 := (Rows.bc (HR.out) 0 rfl).2
    refine wpAnyH_ready (rs := [1, 8]) (by kernel_rfl) (by simp) ?_
    refine AllReadyH.cons (o := ?oi103) ?hi103 (fun K hK => ?stepA103) (AllReadyH.cons (o := ?oj103) ?hj103 (fun K hK => ?stepB103) AllReadyH.nil)
    case hi103 => simp only [List.getElem?_toArray, List.getElem?_cons_succ, List.getElem?_cons_zero]; rfl
    case hj103 => simp only [List.getElem?_toArray, List.getElem?_cons_succ, List.getElem?_cons_zero]; rfl
    all_goals rw [if_pos (by rfl)]
    all_goals go_simp
    · go_at_call 8
      refine (toFltsY_c A0 n0 c0 d0 w.heap.size _ (T0.out.below HB.out (Nat.le_refl _)) HB.out.size F0.out).mono ?_
      rintro e w4 ⟨v, rss0, rfl, hs, hr, hb⟩
      obtain ⟨fs00, fs01, fs02, rfl⟩ := hs.form hr
      have Ss0 := hid hs
      clear hs
      replace HR := hid (HR.out.newer hb hr HB.out.size)
      replace HB := hid (HB.out.trans (hb.mono HB.out.size))
      clear hb hr
      clear da10 da11 da12 da13 ta1
      have da10 := (Rows.bc (HR.out.right) 0 rfl).1
      have da11 := (Rows.bc (HR.out.right) 1 rfl).1
      have da12 := (Rows.bc (HR.out.right) 2 rfl).1
      have da13 := (Rows.bc (HR.out.right) 3 rfl).1
      have ta1 := (Rows.bc (HR.out.right) 0 rfl).2
      refine hK.out _ _ ⟨da10, da11, da12, da13⟩ (fun hS9 => ?_)
      refine wpAnyH_ready (rs := [3, 8]) (by kernel_rfl) (by simp) ?_
      refine AllReadyH.cons (o := ?oi104) ?hi104 (fun K hK => ?stepA104) (AllReadyH.cons (o := ?oj104) ?hj104 (fun K hK => ?stepB104) AllReadyH.nil)
      case hi104 => simp only [List.getElem?_toArray, List.getElem?_cons_succ, List.getElem?_cons_zero]; rfl
      case hj104 => simp only [List.getElem?_toArray, List.getElem?_cons_succ, List.getElem?_cons_zero]; rfl
      all_goals rw [if_pos (by rfl)]
      all_goals go_simp
      · go_at_call 9
        refine (toRecord_c nm1 lv1 tx1 sq1 _).mono ?_
        rintro e w5 ⟨rfl, hb⟩
        replace HR := hid (HR.out.below hb)
        replace HB := hid (HB.out.trans (hb.mono HB.out.size))
        clear hb
        clear da10 da11 da12 da13 ta1
        have da10 := (Rows.bc (HR.out.right) 0 rfl).1
        have da11 := (Rows.bc (HR.out.right) 1 rfl).1
        have da12 := (Rows.bc (HR.out.right) 2 rfl).1
        have da13 := (Rows.bc (HR.out.right) 3 rfl).1
        have ta1 := (Rows.bc (HR.out.right) 0 rfl).2
        refine hK.out _ _ ⟨da10, da11, da12, da13⟩ (fun hS9 => ?_)
        refine wpAnyH_ready (rs := [4, 8]) (by kernel_rfl) (by simp) ?_
        refine AllReadyH.cons (o := ?oi105) ?hi105 (fun K hK => ?stepA105) (AllReadyH.cons (o := ?oj105) ?hj105 (fun K hK => ?stepB105) AllReadyH.nil)
        case hi105 => simp only [List.getElem?_toArray, List.getElem?_cons_succ, List.getElem?_cons_zero]; rfl
        case hj105 => simp only [List.getElem?_toArray, List.getElem?_cons_succ, List.getElem?_cons_zero]; rfl
        all_goals rw [if_pos (by rfl)]
        all_goals go_simp
        · go_at_call 7
          refine (cS.out _ _ (Ss0.out.at_ (HR.out.left) F0.out)).mono ?_
          rintro e w6 ⟨rfl, hb⟩
          replace HR := hid (HR.out.below hb)
          replace HB := hid (HB.out.trans (hb.mono HB.out.size))
          clear hb
          clear da10 da11 da12 da13 ta1
          have da10 := (Rows.bc (HR.out.right) 0 rfl).1
          have da11 := (Rows.bc (HR.out.right) 1 rfl).1
          have da12 := (Rows.bc (HR.out.right) 2 rfl).1
          have da13 := (Rows.bc (HR.out.right) 3 rfl).1
          have ta1 := (Rows.bc (HR.out.right) 0 rfl).2
          refine hK.out _ _ ⟨da10, da11, da12, da13⟩ (fun hS9 => ?_)
          refine wpAnyH_take (i := 5) (oi := ?oi106) (v := ?v106) ?hi106 (by kernel_rfl) ?hf106 ?hr106 ?hQ106 (Or.inl ⟨?hw106, ?hy106⟩) (by assumption) ?rest106
          case hi106 => simp only [List.getElem?_toArray, List.getElem?_cons_succ, List.getElem?_cons_zero]; rfl
          case hf106 => kernel_rfl
          case hr106 => kernel_rfl
          case hw106 => rfl
          case hy106 => (intro w hSw; (try dsimp only at hSw); go_simp; all_goals (first | done | with_reducible rfl))
          case hQ106 => exact fun _ _ _ h => h
          simp only [Act.put, List.setIfInBounds_toArray, List.set_cons_zero, List.set_cons_succ]
          refine wpAnyH_take (i := 6) (oi := ?oi107) (v := ?v107) ?hi107 (by kernel_rfl) ?hf107 ?hr107 ?hQ107 (Or.inl ⟨?hw107, ?hy107⟩) (by assumption) ?rest107
          case hi107 => simp only [List.getElem?_toArray, List.getElem?_cons_succ, List.getElem?_cons_zero]; rfl
          case hf107 => kernel_rfl
          case hr107 => kernel_rfl
          case hw107 => rfl
          case hy107 => (intro w hSw; (try dsimp only at hSw); go_simp; all_goals (first | done | with_reducible rfl))
          case hQ107 => exact fun _ _ _ h => h
          simp only [Act.put, List.setIfInBounds_toArray, List.set_cons_zero, List.set_cons_succ]
          refine wpAnyH_take (i := 7) (oi := ?oi108) (v := ?v108) ?hi108 (by kernel_rfl) ?hf108 ?hr108 ?hQ108 (Or.inl ⟨?hw108, ?hy108⟩) (by assumption) ?rest108
          case hi108 => simp only [List.getElem?_toArray, List.getElem?_cons_succ, List.getElem?_cons_zero]; rfl
          case hf108 => kernel_rfl
          case hr108 => kernel_rfl
          case hw108 => rfl
          case hy108 => (intro w hSw; (try dsimp only at hSw); go_simp; all_goals (first | done | with_reducible rfl))
          case hQ108 => exact fun _ _ _ h => h
          simp only [Act.put, List.setIfInBounds_toArray, List.set_cons_zero, List.set_cons_succ]
          refine wpAnyH_ready (rs := [8]) (by kernel_rfl) (by simp) ?_
          refine AllReadyH.cons (o := ?oi109) ?hi109 (fun K hK => ?step109) AllReadyH.nil
          case hi109 => simp only [List.getElem?_toArray, List.getElem?_cons_succ, List.getElem?_cons_zero]; rfl
          rw [if_pos (by rfl)]
          go_simp
          have ne_a1 : w6.heap.size ≠ w.heap.size := Nat.ne_of_gt ta1
          have nle : w.heap.size ≤ w6.heap.size := HB.out.size
          have hb : Below w6.heap.size w6 (w6.alloc (.cells #[.string ⟨#[]⟩, .int .i64 0, .string ⟨#[]⟩, .int .i64 0] 27)) := (Below.refl _ _).alloc (Nat.le_refl _) _
          have hr := Rows.box w6 #[.string ⟨#[]⟩, .int .i64 0, .string ⟨#[]⟩, .int .i64 0] 27 4 rfl
          replace HR := hid (HR.out.newer hb hr HB.out.size)
          replace HB := hid (HB.out.trans (hb.mono HB.out.size))
          clear hb hr
          clear da10 da11 da12 da13 ta1
          have dbW00 := (Rows.bc (HR.out.left) 0 rfl).1
          have dbW01 := (Rows.bc (HR.out.left) 1 rfl).1
          have dbW02 := (Rows.bc (HR.out.left) 2 rfl).1
          have dbW03 := (Rows.bc (HR.out.left) 3 rfl).1
          have tbW0 := (Rows.bc (HR.out.left) 0 rfl).2
          have da10 := (Rows.bc (HR.out.right.right) 0 rfl).1
          have da11 := (Rows.bc (HR.out.right.right) 1 rfl).1
          have da12 := (Rows.bc (HR.out.right.right) 2 rfl).1
          have da13 := (Rows.bc (HR.out.right.right) 3 rfl).1
          have ta1 := (Rows.bc (HR.out.right.right) 0 rfl).2
          refine hK.out _ _ ⟨da10, da11, da12, da13⟩ (fun hS9 => ?_)
          clear dbW00 dbW01 dbW02 dbW03 tbW0 da10 da11 da12 da13 ta1
          generalize (w6.alloc (.cells #[.string ⟨#[]⟩, .int .i64 0, .string ⟨#[]⟩, .int .i64 0] 27)) = w7 at *
          have dbW00 := (Rows.bc (HR.out.left) 0 rfl).1
          have dbW01 := (Rows.bc (HR.out.left) 1 rfl).1
          have dbW02 := (Rows.bc (HR.out.left) 2 rfl).1
          have dbW03 := (Rows.bc (HR.out.left) 3 rfl).1
          have tbW0 := (Rows.bc (HR.out.left) 0 rfl).2
          have da10 := (Rows.bc (HR.out.right.right) 0 rfl).1
          have da11 := (Rows.bc (HR.out.right.right) 1 rfl).1
          have da12 := (Rows.bc (HR.out.right.right) 2 rfl).1
          have da13 := (Rows.bc (HR.out.right.right) 3 rfl).1
          have ta1 := (Rows.bc (HR.out.right.right) 0 rfl).2
          clear dbW00 dbW01 dbW02 dbW03 tbW0 da10 da11 da12 da13 ta1
          have dbW00 := (Rows.bc (HR.out.left) 0 rfl).1
          have dbW01 := (Rows.bc (HR.out.left) 1 rfl).1
          have dbW02 := (Rows.bc (HR.out.left) 2 rfl).1
          have dbW03 := (Rows.bc (HR.out.left) 3 rfl).1
          have tbW0 := (Rows.bc (HR.out.left) 0 rfl).2
          have da10 := (Rows.bc (HR.out.right.right) 0 rfl).1
          have da11 := (Rows.bc (HR.out.right.right) 1 rfl).1
          have da12 := (Rows.bc (HR.out.right.right) 2 rfl).1
          have da13 := (Rows.bc (HR.out.right.right) 3 rfl).1
          have ta1 := (Rows.bc (HR.out.right.right) 0 rfl).2
          have z0f : w7.frozen? ⟨w6.heap.size, 0, none⟩ = false := (Rows.bcell2 (T := 27) (d := 4) (cs := [.string ⟨#[]⟩, .int .i64 0, .string ⟨#[]⟩, .int .i64 0]) (pre := []) (q := 0) HR.out rfl).2.1
          have z1f : w7.frozen? ⟨w6.heap.size, 1, none⟩ = false := (Rows.bcell2 (T := 27) (d := 4) (cs := [.string ⟨#[]⟩, .int .i64 0, .string ⟨#[]⟩, .int .i64 0]) (pre := []) (q := 1) HR.out rfl).2.1
          have z2f : w7.frozen? ⟨w6.heap.size, 2, none⟩ = false := (Rows.bcell2 (T := 27) (d := 4) (cs := [.string ⟨#[]⟩, .int .i64 0, .string ⟨#[]⟩, .int .i64 0]) (pre := []) (q := 2) HR.out rfl).2.1
          have z3f : w7.frozen? ⟨w6.heap.size, 3, none⟩ = false := (Rows.bcell2 (T := 27) (d := 4) (cs := [.string ⟨#[]⟩, .int .i64 0, .string ⟨#[]⟩, .int .i64 0]) (pre := []) (q := 3) HR.out rfl).2.1
          refine wpAnyH_ready (rs := [9]) (by kernel_rfl) (by simp) ?_
          refine AllReadyH.cons (o := ?oi110) ?hi110 (fun K hK => ?step110) AllReadyH.nil
          case hi110 => simp only [List.getElem?_toArray, List.getElem?_cons_succ, List.getElem?_cons_zero]; rfl
          rw [if_pos (by rfl)]
          go_simp
          refine hK.out _ _ ⟨((World.cell?_setCell_far _ _ _ _ ne_a1).trans ((World.cell?_setCell_far _ _ _ _ ne_a1).trans ((World.cell?_setCell_far _ _ _ _ ne_a1).trans ((World.cell?_setCell_far _ _ _ _ ne_a1).trans da10)))), ((World.cell?_setCell_far _ _ _ _ ne_a1).trans ((World.cell?_setCell_far _ _ _ _ ne_a1).trans ((World.cell?_setCell_far _ _ _ _ ne_a1).trans ((World.cell?_setCell_far _ _ _ _ ne_a1).trans da11)))), ((World.cell?_setCell_far _ _ _ _ ne_a1).trans ((World.cell?_setCell_far _ _ _ _ ne_a1).trans ((World.cell?_setCell_far _ _ _ _ ne_a1).trans ((World.cell?_setCell_far _ _ _ _ ne_a1).trans da12)))), ((World.cell?_setCell_far _ _ _ _ ne_a1).trans ((World.cell?_setCell_far _ _ _ _ ne_a1).trans ((World.cell?_setCell_far _ _ _ _ ne_a1).trans ((World.cell?_setCell_far _ _ _ _ ne_a1).trans da13))))⟩ (fun hS9 => ?_)
          refine wpAnyH_take (i := 10) (oi := ?oi111) (v := ?v111) ?hi111 (by kernel_rfl) ?hf111 ?hr111 ?hQ111 (Or.inl ⟨?hw111, ?hy111⟩) (by assumption) ?rest111
          case hi111 => simp only [List.getElem?_toArray, List.getElem?_cons_succ, List.getElem?_cons_zero]; rfl
          case hf111 => kernel_rfl
          case hr111 => kernel_rfl
          case hw111 => rfl
          case hy111 => (intro w hSw; (try dsimp only at hSw); go_simp; all_goals (first | done | with_reducible rfl))
          case hQ111 => exact fun _ _ _ h => h
          simp only [Act.put, List.setIfInBounds_toArray, List.set_cons_zero, List.set_cons_succ]
          refine wpAnyH_done (by kernel_rfl) ?_ _
          replace HR := hid (Rows.boxset (T := 27) (d := 4) (cs := [.string ⟨#[]⟩, .int .i64 0, .string ⟨#[]⟩, .int .i64 0]) (pre := []) (j := 0) (u := .string Z0nm) HR.out)
          replace HR := hid (Rows.boxset (T := 27) (d := 4) (cs := [.string Z0nm, .int .i64 0, .string ⟨#[]⟩, .int .i64 0]) (pre := []) (j := 1) (u := .int .i64 Z0lv) HR.out)
          replace HR := hid (Rows.boxset (T := 27) (d := 4) (cs := [.string Z0nm, .int .i64 Z0lv, .string ⟨#[]⟩, .int .i64 0]) (pre := []) (j := 2) (u := .string Z0tx) HR.out)
          replace HR := hid (Rows.boxset (T := 27) (d := 4) (cs := [.string Z0nm, .int .i64 Z0lv, .string Z0tx, .int .i64 0]) (pre := []) (j := 3) (u := .int .i64 Z0sq) HR.out)
          replace HB := hid ((((HB.out.setCell (p := ⟨_, 0, none⟩) nle (.string Z0nm)).setCell (p := ⟨_, 1, none⟩) nle (.int .i64 Z0lv)).setCell (p := ⟨_, 2, none⟩) nle (.string Z0tx)).setCell (p := ⟨_, 3, none⟩) nle (.int .i64 Z0sq))
          go_wp2_with fail
          go_meet
          case rel => exact ⟨_, _, _, rfl, rfl, Ss0.out, HR.out, HB.out⟩
        · have ne_a1 : w5.heap.size ≠ w.heap.size := Nat.ne_of_gt ta1
          have nle : w.heap.size ≤ w5.heap.size := HB.out.size
          have hb : Below w5.heap.size w5 (w5.alloc (.cells #[.string ⟨#[]⟩, .int .i64 0, .string ⟨#[]⟩, .int .i64 0] 27)) := (Below.refl _ _).alloc (Nat.le_refl _) _
          have hr := Rows.box w5 #[.string ⟨#[]⟩, .int .i64 0, .string ⟨#[]⟩, .int .i64 0] 27 4 rfl
          replace HR := hid (HR.out.newer hb hr HB.out.size)
          replace HB := hid (HB.out.trans (hb.mono HB.out.size))
          clear hb hr
          clear da10 da11 da12 da13 ta1
          have dbW00 := (Rows.bc (HR.out.left) 0 rfl).1
          have dbW01 := (Rows.bc (HR.out.left) 1 rfl).1
          have dbW02 := (Rows.bc (HR.out.left) 2 rfl).1
          have dbW03 := (Rows.bc (HR.out.left) 3 rfl).1
          have tbW0 := (Rows.bc (HR.out.left) 0 rfl).2
          have da10 := (Rows.bc (HR.out.right.right) 0 rfl).1
          have da11 := (Rows.bc (HR.out.right.right) 1 rfl).1
          have da12 := (Rows.bc (HR.out.right.right) 2 rfl).1
          have da13 := (Rows.bc (HR.out.right.right) 3 rfl).1
          have ta1 := (Rows.bc (HR.out.right.right) 0 rfl).2
          refine hK.out _ _ ⟨da10, da11, da12, da13⟩ (fun hS9 => ?_)
          clear dbW00 dbW01 dbW02 dbW03 tbW0 da10 da11 da12 da13 ta1
          generalize (w5.alloc (.cells #[.string ⟨#[]⟩, .int .i64 0, .string ⟨#[]⟩, .int .i64 0] 27)) = w6 at *
          have dbW00 := (Rows.bc (HR.out.left) 0 rfl).1
          have dbW01 := (Rows.bc (HR.out.left) 1 rfl).1
          have dbW02 := (Rows.bc (HR.out.left) 2 rfl).1
          have dbW03 := (Rows.bc (HR.out.left) 3 rfl).1
          have tbW0 := (Rows.bc (HR.out.left) 0 rfl).2
          have da10 := (Rows.bc (HR.out.right.right) 0 rfl).1
          have da11 := (Rows.bc (HR.out.right.right) 1 rfl).1
          have da12 := (Rows.bc (HR.out.right.right) 2 rfl).1
          have da13 := (Rows.bc (HR.out.right.right) 3 rfl).1
          have ta1 := (Rows.bc (HR.out.right.right) 0 rfl).2
          refine wpAnyH_ready (rs := [4]) (by kernel_rfl) (by simp) ?_
          refine AllReadyH.cons (o := ?oi112) ?hi112 (fun K hK => ?step112) AllReadyH.nil
          case hi112 => simp only [List.getElem?_toArray, List.getElem?_cons_succ, List.getElem?_cons_zero]; rfl
          rw [if_pos (by rfl)]
          go_simp
          go_at_call 7
          refine (cS.out _ _ (Ss0.out.at_ (HR.out.right.left) F0.out)).mono ?_
          rintro e w7 ⟨rfl, hb⟩
          replace HR := hid (HR.out.below hb)
          replace HB := hid (HB.out.trans (hb.mono HB.out.size))
          clear hb
          clear dbW00 dbW01 dbW02 dbW03 tbW0 da10 da11 da12 da13 ta1
          have dbW00 := (Rows.bc (HR.out.left) 0 rfl).1
          have dbW01 := (Rows.bc (HR.out.left) 1 rfl).1
          have dbW02 := (Rows.bc (HR.out.left) 2 rfl).1
          have dbW03 := (Rows.bc (HR.out.left) 3 rfl).1
          have tbW0 := (Rows.bc (HR.out.left) 0 rfl).2
          have da10 := (Rows.bc (HR.out.right.right) 0 rfl).1
          have da11 := (Rows.bc (HR.out.right.right) 1 rfl).1
          have da12 := (Rows.bc (HR.out.right.right) 2 rfl).1
          have da13 := (Rows.bc (HR.out.right.right) 3 rfl).1
          have ta1 := (Rows.bc (HR.out.right.right) 0 rfl).2
          refine hK.out _ _ ⟨da10, da11, da12, da13⟩ (fun hS9 => ?_)
          refine wpAnyH_take (i := 5) (oi := ?oi113) (v := ?v113) ?hi113 (by kernel_rfl) ?hf113 ?hr113 ?hQ113 (Or.inl ⟨?hw113, ?hy113⟩) (by assumption) ?rest113
          case hi113 => simp only [List.getElem?_toArray, List.getElem?_cons_succ, List.getElem?_cons_zero]; rfl
          case hf113 => kernel_rfl
          case hr113 => kernel_rfl
          case hw113 => rfl
          case hy113 => (intro w hSw; (try dsimp only at hSw); go_simp; all_goals (first | done | with_reducible rfl))
          case hQ113 => exact fun _ _ _ h => h
          simp only [Act.put, List.setIfInBounds_toArray, List.set_cons_zero, List.set_cons_succ]
          refine wpAnyH_take (i := 6) (oi := ?oi114) (v := ?v114) ?hi114 (by kernel_rfl) ?hf114 ?hr114 ?hQ114 (Or.inl ⟨?hw114, ?hy114⟩) (by assumption) ?rest114
          case hi114 => simp only [List.getElem?_toArray, List.getElem?_cons_succ, List.getElem?_cons_zero]; rfl
          case hf114 => kernel_rfl
          case hr114 => kernel_rfl
          case hw114 => rfl
          case hy114 => (intro w hSw; (try dsimp only at hSw); go_simp; all_goals (first | done | with_reducible rfl))
          case hQ114 => exact fun _ _ _ h => h
          simp only [Act.put, List.setIfInBounds_toArray, List.set_cons_zero, List.set_cons_succ]
          refine wpAnyH_take (i := 7) (oi := ?oi115) (v := ?v115) ?hi115 (by kernel_rfl) ?hf115 ?hr115 ?hQ115 (Or.inl ⟨?hw115, ?hy115⟩) (by assumption) ?rest115
          case hi115 => simp only [List.getElem?_toArray, List.getElem?_cons_succ, List.getElem?_cons_zero]; rfl
          case hf115 => kernel_rfl
          case hr115 => kernel_rfl
          case hw115 => rfl
          case hy115 => (intro w hSw; (try dsimp only at hSw); go_simp; all_goals (first | done | with_reducible rfl))
          case hQ115 => exact fun _ _ _ h => h
          simp only [Act.put, List.setIfInBounds_toArray, List.set_cons_zero, List.set_cons_succ]
          clear dbW00 dbW01 dbW02 dbW03 tbW0 da10 da11 da12 da13 ta1
          have dbW00 := (Rows.bc (HR.out.left) 0 rfl).1
          have dbW01 := (Rows.bc (HR.out.left) 1 rfl).1
          have dbW02 := (Rows.bc (HR.out.left) 2 rfl).1
          have dbW03 := (Rows.bc (HR.out.left) 3 rfl).1
          have tbW0 := (Rows.bc (HR.out.left) 0 rfl).2
          have da10 := (Rows.bc (HR.out.right.right) 0 rfl).1
          have da11 := (Rows.bc (HR.out.right.right) 1 rfl).1
          have da12 := (Rows.bc (HR.out.right.right) 2 rfl).1
          have da13 := (Rows.bc (HR.out.right.right) 3 rfl).1
          have ta1 := (Rows.bc (HR.out.right.right) 0 rfl).2
          have z0f : w7.frozen? ⟨w5.heap.size, 0, none⟩ = false := (Rows.bcell2 (T := 27) (d := 4) (cs := [.string ⟨#[]⟩, .int .i64 0, .string ⟨#[]⟩, .int .i64 0]) (pre := []) (q := 0) HR.out rfl).2.1
          have z1f : w7.frozen? ⟨w5.heap.size, 1, none⟩ = false := (Rows.bcell2 (T := 27) (d := 4) (cs := [.string ⟨#[]⟩, .int .i64 0, .string ⟨#[]⟩, .int .i64 0]) (pre := []) (q := 1) HR.out rfl).2.1
          have z2f : w7.frozen? ⟨w5.heap.size, 2, none⟩ = false := (Rows.bcell2 (T := 27) (d := 4) (cs := [.string ⟨#[]⟩, .int .i64 0, .string ⟨#[]⟩, .int .i64 0]) (pre := []) (q := 2) HR.out rfl).2.1
          have z3f : w7.frozen? ⟨w5.heap.size, 3, none⟩ = false := (Rows.bcell2 (T := 27) (d := 4) (cs := [.string ⟨#[]⟩, .int .i64 0, .string ⟨#[]⟩, .int .i64 0]) (pre := []) (q := 3) HR.out rfl).2.1
          refine wpAnyH_ready (rs := [9]) (by kernel_rfl) (by simp) ?_
          refine AllReadyH.cons (o := ?oi116) ?hi116 (fun K hK => ?step116) AllReadyH.nil
          case hi116 => simp only [List.getElem?_toArray, List.getElem?_cons_succ, List.getElem?_cons_zero]; rfl
          rw [if_pos (by rfl)]
          go_simp
          refine hK.out _ _ ⟨((World.cell?_setCell_far _ _ _ _ ne_a1).trans ((World.cell?_setCell_far _ _ _ _ ne_a1).trans ((World.cell?_setCell_far _ _ _ _ ne_a1).trans ((World.cell?_setCell_far _ _ _ _ ne_a1).trans da10)))), ((World.cell?_setCell_far _ _ _ _ ne_a1).trans ((World.cell?_setCell_far _ _ _ _ ne_a1).trans ((World.cell?_setCell_far _ _ _ _ ne_a1).trans ((World.cell?_setCell_far _ _ _ _ ne_a1).trans da11)))), ((World.cell?_setCell_far _ _ _ _ ne_a1).trans ((World.cell?_setCell_far _ _ _ _ ne_a1).trans ((World.cell?_setCell_far _ _ _ _ ne_a1).trans ((World.cell?_setCell_far _ _ _ _ ne_a1).trans da12)))), ((World.cell?_setCell_far _ _ _ _ ne_a1).trans ((World.cell?_setCell_far _ _ _ _ ne_a1).trans ((World.cell?_setCell_far _ _ _ _ ne_a1).trans ((World.cell?_setCell_far _ _ _ _ ne_a1).trans da13))))⟩ (fun hS9 => ?_)
          refine wpAnyH_take (i := 10) (oi := ?oi117) (v := ?v117) ?hi117 (by kernel_rfl) ?hf117 ?hr117 ?hQ117 (Or.inl ⟨?hw117, ?hy117⟩) (by assumption) ?rest117
          case hi117 => simp only [List.getElem?_toArray, List.getElem?_cons_succ, List.getElem?_cons_zero]; rfl
          case hf117 => kernel_rfl
          case hr117 => kernel_rfl
          case hw117 => rfl
          case hy117 => (intro w hSw; (try dsimp only at hSw); go_simp; all_goals (first | done | with_reducible rfl))
          case hQ117 => exact fun _ _ _ h => h
          simp only [Act.put, List.setIfInBounds_toArray, List.set_cons_zero, List.set_cons_succ]
          refine wpAnyH_done (by kernel_rfl) ?_ _
          replace HR := hid (Rows.boxset (T := 27) (d := 4) (cs := [.string ⟨#[]⟩, .int .i64 0, .string ⟨#[]⟩, .int .i64 0]) (pre := []) (j := 0) (u := .string Z0nm) HR.out)
          replace HR := hid (Rows.boxset (T := 27) (d := 4) (cs := [.string Z0nm, .int .i64 0, .string ⟨#[]⟩, .int .i64 0]) (pre := []) (j := 1) (u := .int .i64 Z0lv) HR.out)
          replace HR := hid (Rows.boxset (T := 27) (d := 4) (cs := [.string Z0nm, .int .i64 Z0lv, .string ⟨#[]⟩, .int .i64 0]) (pre := []) (j := 2) (u := .string Z0tx) HR.out)
          replace HR := hid (Rows.boxset (T := 27) (d := 4) (cs := [.string Z0nm, .int .i64 Z0lv, .string Z0tx, .int .i64 0]) (pre := []) (j := 3) (u := .int .i64 Z0sq) HR.out)
          replace HB := hid ((((HB.out.setCell (p := ⟨_, 0, none⟩) nle (.string Z0nm)).setCell (p := ⟨_, 1, none⟩) nle (.int .i64 Z0lv)).setCell (p := ⟨_, 2, none⟩) nle (.string Z0tx)).setCell (p := ⟨_, 3, none⟩) nle (.int .i64 Z0sq))
          go_wp2_with fail
          go_meet
          case rel => exact ⟨_, _, _, rfl, rfl, Ss0.out, HR.out, HB.out⟩
      · have ne_a1 : w4.heap.size ≠ w.heap.size := Nat.ne_of_gt ta1
        have nle : w.heap.size ≤ w4.heap.size := HB.out.size
        have hb : Below w4.heap.size w4 (w4.alloc (.cells #[.string ⟨#[]⟩, .int .i64 0, .string ⟨#[]⟩, .int .i64 0] 27)) := (Below.refl _ _).alloc (Nat.le_refl _) _
        have hr := Rows.box w4 #[.string ⟨#[]⟩, .int .i64 0, .string ⟨#[]⟩, .int .i64 0] 27 4 rfl
        replace HR := hid (HR.out.newer hb hr HB.out.size)
        replace HB := hid (HB.out.trans (hb.mono HB.out.size))
        clear hb hr
        clear da10 da11 da12 da13 ta1
        have dbW00 := (Rows.bc (HR.out.left) 0 rfl).1
        have dbW01 := (Rows.bc (HR.out.left) 1 rfl).1
        have dbW02 := (Rows.bc (HR.out.left) 2 rfl).1
        have dbW03 := (Rows.bc (HR.out.left) 3 rfl).1
        have tbW0 := (Rows.bc (HR.out.left) 0 rfl).2
        have da10 := (Rows.bc (HR.out.right.right) 0 rfl).1
        have da11 := (Rows.bc (HR.out.right.right) 1 rfl).1
        have da12 := (Rows.bc (HR.out.right.right) 2 rfl).1
        have da13 := (Rows.bc (HR.out.right.right) 3 rfl).1
        have ta1 := (Rows.bc (HR.out.right.right) 0 rfl).2
        refine hK.out _ _ ⟨da10, da11, da12, da13⟩ (fun hS9 => ?_)
        clear dbW00 dbW01 dbW02 dbW03 tbW0 da10 da11 da12 da13 ta1
        generalize (w4.alloc (.cells #[.string ⟨#[]⟩, .int .i64 0, .string ⟨#[]⟩, .int .i64 0] 27)) = w5 at *
        have dbW00 := (Rows.bc (HR.out.left) 0 rfl).1
        have dbW01 := (Rows.bc (HR.out.left) 1 rfl).1
        have dbW02 := (Rows.bc (HR.out.left) 2 rfl).1
        have dbW03 := (Rows.bc (HR.out.left) 3 rfl).1
        have tbW0 := (Rows.bc (HR.out.left) 0 rfl).2
        have da10 := (Rows.bc (HR.out.right.right) 0 rfl).1
        have da11 := (Rows.bc (HR.out.right.right) 1 rfl).1
        have da12 := (Rows.bc (HR.out.right.right) 2 rfl).1
        have da13 := (Rows.bc (HR.out.right.right) 3 rfl).1
        have ta1 := (Rows.bc (HR.out.right.right) 0 rfl).2
        refine wpAnyH_ready (rs := [3]) (by kernel_rfl) (by simp) ?_
        refine AllReadyH.cons (o := ?oi118) ?hi118 (fun K hK => ?step118) AllReadyH.nil
        case hi118 => simp only [List.getElem?_toArray, List.getElem?_cons_succ, List.getElem?_cons_zero]; rfl
        rw [if_pos (by rfl)]
        go_simp
        go_at_call 9
        refine (toRecord_c nm1 lv1 tx1 sq1 _).mono ?_
        rintro e w6 ⟨rfl, hb⟩
        replace HR := hid (HR.out.below hb)
        replace HB := hid (HB.out.trans (hb.mono HB.out.size))
        clear hb
        clear dbW00 dbW01 dbW02 dbW03 tbW0 da10 da11 da12 da13 ta1
        have dbW00 := (Rows.bc (HR.out.left) 0 rfl).1
        have dbW01 := (Rows.bc (HR.out.left) 1 rfl).1
        have dbW02 := (Rows.bc (HR.out.left) 2 rfl).1
        have dbW03 := (Rows.bc (HR.out.left) 3 rfl).1
        have tbW0 := (Rows.bc (HR.out.left) 0 rfl).2
        have da10 := (Rows.bc (HR.out.right.right) 0 rfl).1
        have da11 := (Rows.bc (HR.out.right.right) 1 rfl).1
        have da12 := (Rows.bc (HR.out.right.right) 2 rfl).1
        have da13 := (Rows.bc (HR.out.right.right) 3 rfl).1
        have ta1 := (Rows.bc (HR.out.right.right) 0 rfl).2
        refine hK.out _ _ ⟨da10, da11, da12, da13⟩ (fun hS9 => ?_)
        refine wpAnyH_ready (rs := [4]) (by kernel_rfl) (by simp) ?_
        refine AllReadyH.cons (o := ?oi119) ?hi119 (fun K hK => ?step119) AllReadyH.nil
        case hi119 => simp only [List.getElem?_toArray, List.getElem?_cons_succ, List.getElem?_cons_zero]; rfl
        rw [if_pos (by rfl)]
        go_simp
        go_at_call 7
        refine (cS.out _ _ (Ss0.out.at_ (HR.out.right.left) F0.out)).mono ?_
        rintro e w7 ⟨rfl, hb⟩
        replace HR := hid (HR.out.below hb)
        replace HB := hid (HB.out.trans (hb.mono HB.out.size))
        clear hb
        clear dbW00 dbW01 dbW02 dbW03 tbW0 da10 da11 da12 da13 ta1
        have dbW00 := (Rows.bc (HR.out.left) 0 rfl).1
        have dbW01 := (Rows.bc (HR.out.left) 1 rfl).1
        have dbW02 := (Rows.bc (HR.out.left) 2 rfl).1
        have dbW03 := (Rows.bc (HR.out.left) 3 rfl).1
        have tbW0 := (Rows.bc (HR.out.left) 0 rfl).2
        have da10 := (Rows.bc (HR.out.right.right) 0 rfl).1
        have da11 := (Rows.bc (HR.out.right.right) 1 rfl).1
        have da12 := (Rows.bc (HR.out.right.right) 2 rfl).1
        have da13 := (Rows.bc (HR.out.right.right) 3 rfl).1
        have ta1 := (Rows.bc (HR.out.right.right) 0 rfl).2
        refine hK.out _ _ ⟨da10, da11, da12, da13⟩ (fun hS9 => ?_)
        refine wpAnyH_take (i := 5) (oi := ?oi120) (v := ?v120) ?hi120 (by kernel_rfl) ?hf120 ?hr120 ?hQ120 (Or.inl ⟨?hw120, ?hy120⟩) (by assumption) ?rest120
        case hi120 => simp only [List.getElem?_toArray, List.getElem?_cons_succ, List.getElem?_cons_zero]; rfl
        case hf120 => kernel_rfl
        case hr120 => kernel_rfl
        case hw120 => rfl
        case hy120 => (intro w hSw; (try dsimp only at hSw); go_simp; all_goals (first | done | with_reducible rfl))
        case hQ120 => exact fun _ _ _ h => h
        simp only [Act.put, List.setIfInBounds_toArray, List.set_cons_zero, List.set_cons_succ]
        refine wpAnyH_take (i := 6) (oi := ?oi121) (v := ?v121) ?hi121 (by kernel_rfl) ?hf121 ?hr121 ?hQ121 (Or.inl ⟨?hw121, ?hy121⟩) (by assumption) ?rest121
        case hi121 => simp only [List.getElem?_toArray, List.getElem?_cons_succ, List.getElem?_cons_zero]; rfl
        case hf121 => kernel_rfl
        case hr121 => kernel_rfl
        case hw121 => rfl
        case hy121 => (intro w hSw; (try dsimp only at hSw); go_simp; all_goals (first | done | with_reducible rfl))
        case hQ121 => exact fun _ _ _ h => h
        simp only [Act.put, List.setIfInBounds_toArray, List.set_cons_zero, List.set_cons_succ]
        refine wpAnyH_take (i := 7) (oi := ?oi122) (v := ?v122) ?hi122 (by kernel_rfl) ?hf122 ?hr122 ?hQ122 (Or.inl ⟨?hw122, ?hy122⟩) (by assumption) ?rest122
        case hi122 => simp only [List.getElem?_toArray, List.getElem?_cons_succ, List.getElem?_cons_zero]; rfl
        case hf122 => kernel_rfl
        case hr122 => kernel_rfl
        case hw122 => rfl
        case hy122 => (intro w hSw; (try dsimp only at hSw); go_simp; all_goals (first | done | with_reducible rfl))
        case hQ122 => exact fun _ _ _ h => h
        simp only [Act.put, List.setIfInBounds_toArray, List.set_cons_zero, List.set_cons_succ]
        clear dbW00 dbW01 dbW02 dbW03 tbW0 da10 da11 da12 da13 ta1
        have dbW00 := (Rows.bc (HR.out.left) 0 rfl).1
        have dbW01 := (Rows.bc (HR.out.left) 1 rfl).1
        have dbW02 := (Rows.bc (HR.out.left) 2 rfl).1
        have dbW03 := (Rows.bc (HR.out.left) 3 rfl).1
        have tbW0 := (Rows.bc (HR.out.left) 0 rfl).2
        have da10 := (Rows.bc (HR.out.right.right) 0 rfl).1
        have da11 := (Rows.bc (HR.out.right.right) 1 rfl).1
        have da12 := (Rows.bc (HR.out.right.right) 2 rfl).1
        have da13 := (Rows.bc (HR.out.right.right) 3 rfl).1
        have ta1 := (Rows.bc (HR.out.right.right) 0 rfl).2
        have z0f : w7.frozen? ⟨w4.heap.size, 0, none⟩ = false := (Rows.bcell2 (T := 27) (d := 4) (cs := [.string ⟨#[]⟩, .int .i64 0, .string ⟨#[]⟩, .int .i64 0]) (pre := []) (q := 0) HR.out rfl).2.1
        have z1f : w7.frozen? ⟨w4.heap.size, 1, none⟩ = false := (Rows.bcell2 (T := 27) (d := 4) (cs := [.string ⟨#[]⟩, .int .i64 0, .string ⟨#[]⟩, .int .i64 0]) (pre := []) (q := 1) HR.out rfl).2.1
        have z2f : w7.frozen? ⟨w4.heap.size, 2, none⟩ = false := (Rows.bcell2 (T := 27) (d := 4) (cs := [.string ⟨#[]⟩, .int .i64 0, .string ⟨#[]⟩, .int .i64 0]) (pre := []) (q := 2) HR.out rfl).2.1
        have z3f : w7.frozen? ⟨w4.heap.size, 3, none⟩ = false := (Rows.bcell2 (T := 27) (d := 4) (cs := [.string ⟨#[]⟩, .int .i64 0, .string ⟨#[]⟩, .int .i64 0]) (pre := []) (q := 3) HR.out rfl).2.1
        refine wpAnyH_ready (rs := [9]) (by kernel_rfl) (by simp) ?_
        refine AllReadyH.cons (o := ?oi123) ?hi123 (fun K hK => ?step123) AllReadyH.nil
        case hi123 => simp only [List.getElem?_toArray, List.getElem?_cons_succ, List.getElem?_cons_zero]; rfl
        rw [if_pos (by rfl)]
        go_simp
        refine hK.out _ _ ⟨((World.cell?_setCell_far _ _ _ _ ne_a1).trans ((World.cell?_setCell_far _ _ _ _ ne_a1).trans ((World.cell?_setCell_far _ _ _ _ ne_a1).trans ((World.cell?_setCell_far _ _ _ _ ne_a1).trans da10)))), ((World.cell?_setCell_far _ _ _ _ ne_a1).trans ((World.cell?_setCell_far _ _ _ _ ne_a1).trans ((World.cell?_setCell_far _ _ _ _ ne_a1).trans ((World.cell?_setCell_far _ _ _ _ ne_a1).trans da11)))), ((World.cell?_setCell_far _ _ _ _ ne_a1).trans ((World.cell?_setCell_far _ _ _ _ ne_a1).trans ((World.cell?_setCell_far _ _ _ _ ne_a1).trans ((World.cell?_setCell_far _ _ _ _ ne_a1).trans da12)))), ((World.cell?_setCell_far _ _ _ _ ne_a1).trans ((World.cell?_setCell_far _ _ _ _ ne_a1).trans ((World.cell?_setCell_far _ _ _ _ ne_a1).trans ((World.cell?_setCell_far _ _ _ _ ne_a1).trans da13))))⟩ (fun hS9 => ?_)
        refine wpAnyH_take (i := 10) (oi := ?oi124) (v := ?v124) ?hi124 (by kernel_rfl) ?hf124 ?hr124 ?hQ124 (Or.inl ⟨?hw124, ?hy124⟩) (by assumption) ?rest124
        case hi124 => simp only [List.getElem?_toArray, List.getElem?_cons_succ, List.getElem?_cons_zero]; rfl
        case hf124 => kernel_rfl
        case hr124 => kernel_rfl
        case hw124 => rfl
        case hy124 => (intro w hSw; (try dsimp only at hSw); go_simp; all_goals (first | done | with_reducible rfl))
        case hQ124 => exact fun _ _ _ h => h
        simp only [Act.put, List.setIfInBounds_toArray, List.set_cons_zero, List.set_cons_succ]
        refine wpAnyH_done (by kernel_rfl) ?_ _
        replace HR := hid (Rows.boxset (T := 27) (d := 4) (cs := [.string ⟨#[]⟩, .int .i64 0, .string ⟨#[]⟩, .int .i64 0]) (pre := []) (j := 0) (u := .string Z0nm) HR.out)
        replace HR := hid (Rows.boxset (T := 27) (d := 4) (cs := [.string Z0nm, .int .i64 0, .string ⟨#[]⟩, .int .i64 0]) (pre := []) (j := 1) (u := .int .i64 Z0lv) HR.out)
        replace HR := hid (Rows.boxset (T := 27) (d := 4) (cs := [.string Z0nm, .int .i64 Z0lv, .string ⟨#[]⟩, .int .i64 0]) (pre := []) (j := 2) (u := .string Z0tx) HR.out)
        replace HR := hid (Rows.boxset (T := 27) (d := 4) (cs := [.string Z0nm, .int .i64 Z0lv, .string Z0tx, .int .i64 0]) (pre := []) (j := 3) (u := .int .i64 Z0sq) HR.out)
        replace HB := hid ((((HB.out.setCell (p := ⟨_, 0, none⟩) nle (.string Z0nm)).setCell (p := ⟨_, 1, none⟩) nle (.int .i64 Z0lv)).setCell (p := ⟨_, 2, none⟩) nle (.string Z0tx)).setCell (p := ⟨_, 3, none⟩) nle (.int .i64 Z0sq))
        go_wp2_with fail
        go_meet
        case rel => exact ⟨_, _, _, rfl, rfl, Ss0.out, HR.out, HB.out⟩
    · have ne_a1 : w3.heap.size ≠ w.heap.size := Nat.ne_of_gt ta1
      have nle : w.heap.size ≤ w3.heap.size := HB.out.size
      have hb : Below w3.heap.size w3 (w3.alloc (.cells #[.string ⟨#[]⟩, .int .i64 0, .string ⟨#[]⟩, .int .i64 0] 27)) := (Below.refl _ _).alloc (Nat.le_refl _) _
      have hr := Rows.box w3 #[.string ⟨#[]⟩, .int .i64 0, .string ⟨#[]⟩, .int .i64 0] 27 4 rfl
      replace HR := hid (HR.out.newer hb hr HB.out.size)
      replace HB := hid (HB.out.trans (hb.mono HB.out.size))
      clear hb hr
      clear da10 da11 da12 da13 ta1
      have dbW00 := (Rows.bc (HR.out.left) 0 rfl).1
      have dbW01 := (Rows.bc (HR.out.left) 1 rfl).1
      have dbW02 := (Rows.bc (HR.out.left) 2 rfl).1
      have dbW03 := (Rows.bc (HR.out.left) 3 rfl).1
      have tbW0 := (Rows.bc (HR.out.left) 0 rfl).2
      have da10 := (Rows.bc (HR.out.right) 0 rfl).1
      have da11 := (Rows.bc (HR.out.right) 1 rfl).1
      have da12 := (Rows.bc (HR.out.right) 2 rfl).1
      have da13 := (Rows.bc (HR.out.right) 3 rfl).1
      have ta1 := (Rows.bc (HR.out.right) 0 rfl).2
      refine hK.out _ _ ⟨da10, da11, da12, da13⟩ (fun hS9 => ?_)
      clear dbW00 dbW01 dbW02 dbW03 tbW0 da10 da11 da12 da13 ta1
      generalize (w3.alloc (.cells #[.string ⟨#[]⟩, .int .i64 0, .string ⟨#[]⟩, .int .i64 0] 27)) = w4 at *
      have dbW00 := (Rows.bc (HR.out.left) 0 rfl).1
      have dbW01 := (Rows.bc (HR.out.left) 1 rfl).1
      have dbW02 := (Rows.bc (HR.out.left) 2 rfl).1
      have dbW03 := (Rows.bc (HR.out.left) 3 rfl).1
      have tbW0 := (Rows.bc (HR.out.left) 0 rfl).2
      have da10 := (Rows.bc (HR.out.right) 0 rfl).1
      have da11 := (Rows.bc (HR.out.right) 1 rfl).1
      have da12 := (Rows.bc (HR.out.right) 2 rfl).1
      have da13 := (Rows.bc (HR.out.right) 3 rfl).1
      have ta1 := (Rows.bc (HR.out.right) 0 rfl).2
      refine wpAnyH_ready (rs := [1]) (by kernel_rfl) (by simp) ?_
      refine AllReadyH.cons (o := ?oi125) ?hi125 (fun K hK => ?step125) AllReadyH.nil
      case hi125 => simp only [List.getElem?_toArray, List.getElem?_cons_succ, List.getElem?_cons_zero]; rfl
      rw [if_pos (by rfl)]
      go_simp
      go_at_call 8
      refine (toFltsY_c A0 n0 c0 d0 w.heap.size _ (T0.out.below HB.out (Nat.le_refl _)) HB.out.size F0.out).mono ?_
      rintro e w5 ⟨v, rss0, rfl, hs, hr, hb⟩
      obtain ⟨fs00, fs01, fs02, rfl⟩ := hs.form hr
      have Ss0 := hid hs
      clear hs
      replace HR := hid (HR.out.newer hb hr HB.out.size)
      replace HB := hid (HB.out.trans (hb.mono HB.out.size))
      clear hb hr
      clear dbW00 dbW01 dbW02 dbW03 tbW0 da10 da11 da12 da13 ta1
      have dbW00 := (Rows.bc (HR.out.right.left) 0 rfl).1
      have dbW01 := (Rows.bc (HR.out.right.left) 1 rfl).1
      have dbW02 := (Rows.bc (HR.out.right.left) 2 rfl).1
      have dbW03 := (Rows.bc (HR.out.right.left) 3 rfl).1
      have tbW0 := (Rows.bc (HR.out.right.left) 0 rfl).2
      have da10 := (Rows.bc (HR.out.right.right) 0 rfl).1
      have da11 := (Rows.bc (HR.out.right.right) 1 rfl).1
      have da12 := (Rows.bc (HR.out.right.right) 2 rfl).1
      have da13 := (Rows.bc (HR.out.right.right) 3 rfl).1
      have ta1 := (Rows.bc (HR.out.right.right) 0 rfl).2
      refine hK.out _ _ ⟨da10, da11, da12, da13⟩ (fun hS9 => ?_)
      refine wpAnyH_ready (rs := [3]) (by kernel_rfl) (by simp) ?_
      refine AllReadyH.cons (o := ?oi126) ?hi126 (fun K hK => ?step126) AllReadyH.nil
      case hi126 => simp only [List.getElem?_toArray, List.getElem?_cons_succ, List.getElem?_cons_zero]; rfl
      rw [if_pos (by rfl)]
      go_simp
      go_at_call 9
      refine (toRecord_c nm1 lv1 tx1 sq1 _).mono ?_
      rintro e w6 ⟨rfl, hb⟩
      replace HR := hid (HR.out.below hb)
      replace HB := hid (HB.out.trans (hb.mono HB.out.size))
      clear hb
      clear dbW00 dbW01 dbW02 dbW03 tbW0 da10 da11 da12 da13 ta1
      have dbW00 := (Rows.bc (HR.out.right.left) 0 rfl).1
      have dbW01 := (Rows.bc (HR.out.right.left) 1 rfl).1
      have dbW02 := (Rows.bc (HR.out.right.left) 2 rfl).1
      have dbW03 := (Rows.bc (HR.out.right.left) 3 rfl).1
      have tbW0 := (Rows.bc (HR.out.right.left) 0 rfl).2
      have da10 := (Rows.bc (HR.out.right.right) 0 rfl).1
      have da11 := (Rows.bc (HR.out.right.right) 1 rfl).1
      have da12 := (Rows.bc (HR.out.right.right) 2 rfl).1
      have da13 := (Rows.bc (HR.out.right.right) 3 rfl).1
      have ta1 := (Rows.bc (HR.out.right.right) 0 rfl).2
      refine hK.out _ _ ⟨da10, da11, da12, da13⟩ (fun hS9 => ?_)
      refine wpAnyH_ready (rs := [4]) (by kernel_rfl) (by simp) ?_
      refine AllReadyH.cons (o := ?oi127) ?hi127 (fun K hK => ?step127) AllReadyH.nil
      case hi127 => simp only [List.getElem?_toArray, List.getElem?_cons_succ, List.getElem?_cons_zero]; rfl
      rw [if_pos (by rfl)]
      go_simp
      go_at_call 7
      refine (cS.out _ _ (Ss0.out.at_ (HR.out.left) F0.out)).mono ?_
      rintro e w7 ⟨rfl, hb⟩
      replace HR := hid (HR.out.below hb)
      replace HB := hid (HB.out.trans (hb.mono HB.out.size))
      clear hb
      clear dbW00 dbW01 dbW02 dbW03 tbW0 da10 da11 da12 da13 ta1
      have dbW00 := (Rows.bc (HR.out.right.left) 0 rfl).1
      have dbW01 := (Rows.bc (HR.out.right.left) 1 rfl).1
      have dbW02 := (Rows.bc (HR.out.right.left) 2 rfl).1
      have dbW03 := (Rows.bc (HR.out.right.left) 3 rfl).1
      have tbW0 := (Rows.bc (HR.out.right.left) 0 rfl).2
      have da10 := (Rows.bc (HR.out.right.right) 0 rfl).1
      have da11 := (Rows.bc (HR.out.right.right) 1 rfl).1
      have da12 := (Rows.bc (HR.out.right.right) 2 rfl).1
      have da13 := (Rows.bc (HR.out.right.right) 3 rfl).1
      have ta1 := (Rows.bc (HR.out.right.right) 0 rfl).2
      refine hK.out _ _ ⟨da10, da11, da12, da13⟩ (fun hS9 => ?_)
      refine wpAnyH_take (i := 5) (oi := ?oi128) (v := ?v128) ?hi128 (by kernel_rfl) ?hf128 ?hr128 ?hQ128 (Or.inl ⟨?hw128, ?hy128⟩) (by assumption) ?rest128
      case hi128 => simp only [List.getElem?_toArray, List.getElem?_cons_succ, List.getElem?_cons_zero]; rfl
      case hf128 => kernel_rfl
      case hr128 => kernel_rfl
      case hw128 => rfl
      case hy128 => (intro w hSw; (try dsimp only at hSw); go_simp; all_goals (first | done | with_reducible rfl))
      case hQ128 => exact fun _ _ _ h => h
      simp only [Act.put, List.setIfInBounds_toArray, List.set_cons_zero, List.set_cons_succ]
      refine wpAnyH_take (i := 6) (oi := ?oi129) (v := ?v129) ?hi129 (by kernel_rfl) ?hf129 ?hr129 ?hQ129 (Or.inl ⟨?hw129, ?hy129⟩) (by assumption) ?rest129
      case hi129 => simp only [List.getElem?_toArray, List.getElem?_cons_succ, List.getElem?_cons_zero]; rfl
      case hf129 => kernel_rfl
      case hr129 => kernel_rfl
      case hw129 => rfl
      case hy129 => (intro w hSw; (try dsimp only at hSw); go_simp; all_goals (first | done | with_reducible rfl))
      case hQ129 => exact fun _ _ _ h => h
      simp only [Act.put, List.setIfInBounds_toArray, List.set_cons_zero, List.set_cons_succ]
      refine wpAnyH_take (i := 7) (oi := ?oi130) (v := ?v130) ?hi130 (by kernel_rfl) ?hf130 ?hr130 ?hQ130 (Or.inl ⟨?hw130, ?hy130⟩) (by assumption) ?rest130
      case hi130 => simp only [List.getElem?_toArray, List.getElem?_cons_succ, List.getElem?_cons_zero]; rfl
      case hf130 => kernel_rfl
      case hr130 => kernel_rfl
      case hw130 => rfl
      case hy130 => (intro w hSw; (try dsimp only at hSw); go_simp; all_goals (first | done | with_reducible rfl))
      case hQ130 => exact fun _ _ _ h => h
      simp only [Act.put, List.setIfInBounds_toArray, List.set_cons_zero, List.set_cons_succ]
      replace HR := hid (HR.out.perm (List.perm_append_comm_assoc _ _ _))
      clear dbW00 dbW01 dbW02 dbW03 tbW0 da10 da11 da12 da13 ta1
      have dbW00 := (Rows.bc (HR.out.left) 0 rfl).1
      have dbW01 := (Rows.bc (HR.out.left) 1 rfl).1
      have dbW02 := (Rows.bc (HR.out.left) 2 rfl).1
      have dbW03 := (Rows.bc (HR.out.left) 3 rfl).1
      have tbW0 := (Rows.bc (HR.out.left) 0 rfl).2
      have da10 := (Rows.bc (HR.out.right.right) 0 rfl).1
      have da11 := (Rows.bc (HR.out.right.right) 1 rfl).1
      have da12 := (Rows.bc (HR.out.right.right) 2 rfl).1
      have da13 := (Rows.bc (HR.out.right.right) 3 rfl).1
      have ta1 := (Rows.bc (HR.out.right.right) 0 rfl).2
      have z0f : w7.frozen? ⟨w3.heap.size, 0, none⟩ = false := (Rows.bcell2 (T := 27) (d := 4) (cs := [.string ⟨#[]⟩, .int .i64 0, .string ⟨#[]⟩, .int .i64 0]) (pre := []) (q := 0) HR.out rfl).2.1
      have z1f : w7.frozen? ⟨w3.heap.size, 1, none⟩ = false := (Rows.bcell2 (T := 27) (d := 4) (cs := [.string ⟨#[]⟩, .int .i64 0, .string ⟨#[]⟩, .int .i64 0]) (pre := []) (q := 1) HR.out rfl).2.1
      have z2f : w7.frozen? ⟨w3.heap.size, 2, none⟩ = false := (Rows.bcell2 (T := 27) (d := 4) (cs := [.string ⟨#[]⟩, .int .i64 0, .string ⟨#[]⟩, .int .i64 0]) (pre := []) (q := 2) HR.out rfl).2.1
      have z3f : w7.frozen? ⟨w3.heap.size, 3, none⟩ = false := (Rows.bcell2 (T := 27) (d := 4) (cs := [.string ⟨#[]⟩, .int .i64 0, .string ⟨#[]⟩, .int .i64 0]) (pre := []) (q := 3) HR.out rfl).2.1
      refine wpAnyH_ready (rs := [9]) (by kernel_rfl) (by simp) ?_
      refine AllReadyH.cons (o := ?oi131) ?hi131 (fun K hK => ?step131) AllReadyH.nil
      case hi131 => simp only [List.getElem?_toArray, List.getElem?_cons_succ, List.getElem?_cons_zero]; rfl
      rw [if_pos (by rfl)]
      go_simp
      refine hK.out _ _ ⟨((World.cell?_setCell_far _ _ _ _ ne_a1).trans ((World.cell?_setCell_far _ _ _ _ ne_a1).trans ((World.cell?_setCell_far _ _ _ _ ne_a1).trans ((World.cell?_setCell_far _ _ _ _ ne_a1).trans da10)))), ((World.cell?_setCell_far _ _ _ _ ne_a1).trans ((World.cell?_setCell_far _ _ _ _ ne_a1).trans ((World.cell?_setCell_far _ _ _ _ ne_a1).trans ((World.cell?_setCell_far _ _ _ _ ne_a1).trans da11)))), ((World.cell?_setCell_far _ _ _ _ ne_a1).trans ((World.cell?_setCell_far _ _ _ _ ne_a1).trans ((World.cell?_setCell_far _ _ _ _ ne_a1).trans ((World.cell?_setCell_far _ _ _ _ ne_a1).trans da12)))), ((World.cell?_setCell_far _ _ _ _ ne_a1).trans ((World.cell?_setCell_far _ _ _ _ ne_a1).trans ((World.cell?_setCell_far _ _ _ _ ne_a1).trans ((World.cell?_setCell_far _ _ _ _ ne_a1).trans da13))))⟩ (fun hS9 => ?_)
      refine wpAnyH_take (i := 10) (oi := ?oi132) (v := ?v132) ?hi132 (by kernel_rfl) ?hf132 ?hr132 ?hQ132 (Or.inl ⟨?hw132, ?hy132⟩) (by assumption) ?rest132
      case hi132 => simp only [List.getElem?_toArray, List.getElem?_cons_succ, List.getElem?_cons_zero]; rfl
      case hf132 => kernel_rfl
      case hr132 => kernel_rfl
      case hw132 => rfl
      case hy132 => (intro w hSw; (try dsimp only at hSw); go_simp; all_goals (first | done | with_reducible rfl))
      case hQ132 => exact fun _ _ _ h => h
      simp only [Act.put, List.setIfInBounds_toArray, List.set_cons_zero, List.set_cons_succ]
      refine wpAnyH_done (by kernel_rfl) ?_ _
      replace HR := hid (Rows.boxset (T := 27) (d := 4) (cs := [.string ⟨#[]⟩, .int .i64 0, .string ⟨#[]⟩, .int .i64 0]) (pre := []) (j := 0) (u := .string Z0nm) HR.out)
      replace HR := hid (Rows.boxset (T := 27) (d := 4) (cs := [.string Z0nm, .int .i64 0, .string ⟨#[]⟩, .int .i64 0]) (pre := []) (j := 1) (u := .int .i64 Z0lv) HR.out)
      replace HR := hid (Rows.boxset (T := 27) (d := 4) (cs := [.string Z0nm, .int .i64 Z0lv, .string ⟨#[]⟩, .int .i64 0]) (pre := []) (j := 2) (u := .string Z0tx) HR.out)
      replace HR := hid (Rows.boxset (T := 27) (d := 4) (cs := [.string Z0nm, .int .i64 Z0lv, .string Z0tx, .int .i64 0]) (pre := []) (j := 3) (u := .int .i64 Z0sq) HR.out)
      replace HB := hid ((((HB.out.setCell (p := ⟨_, 0, none⟩) nle (.string Z0nm)).setCell (p := ⟨_, 1, none⟩) nle (.int .i64 Z0lv)).setCell (p := ⟨_, 2, none⟩) nle (.string Z0tx)).setCell (p := ⟨_, 3, none⟩) nle (.int .i64 Z0sq))
      go_wp2_with fail
      go_meet
      case rel => exact ⟨_, _, _, rfl, rfl, Ss0.out, HR.out, HB.out⟩
  case rest =>
    clear HR HB da10 da11 da12 da13 ta1
    obtain ⟨bbW, rss0, vs0, rfl, rfl, hss0, hr, hb⟩ := hcut
    rename World => w50
    have HR := hid hr
    have HB := hid hb
    clear hr hb
    have Ss0 := hid hss0
    clear hss0
    have dbW00 := (Rows.bc (HR.out.left) 0 rfl).1
    have dbW01 := (Rows.bc (HR.out.left) 1 rfl).1
    have dbW02 := (Rows.bc (HR.out.left) 2 rfl).1
    have dbW03 := (Rows.bc (HR.out.left) 3 rfl).1
    have tbW0 := (Rows.bc (HR.out.left) 0 rfl).2
    have da10 := (Rows.bc (HR.out.right.right) 0 rfl).1
    have da11 := (Rows.bc (HR.out.right.right) 1 rfl).1
    have da12 := (Rows.bc (HR.out.right.right) 2 rfl).1
    have da13 := (Rows.bc (HR.out.right.right) 3 rfl).1
    have ta1 := (Rows.bc (HR.out.right.right) 0 rfl).2
    replace HR := hid (HR.out.sub ((List.Sublist.refl _).append (List.sublist_append_right _ _)))
    clear Ss0
    go_wp2_with fail
    refine (toFltsY_c A0 n0 c0 d0 w.heap.size _ (T0.out.below HB.out (Nat.le_refl _)) HB.out.size F0.out).mono ?_
    rintro e w51 ⟨v, rsx0, rfl, hs, hr, hb⟩
    obtain ⟨fx00, fx01, fx02, rfl⟩ := hs.form hr
    have Sx0 := hid hs
    clear hs
    replace HR := hid (HR.out.newer hb hr HB.out.size)
    replace HB := hid (HB.out.trans (hb.mono HB.out.size))
    clear hb hr
    clear dbW00 dbW01 dbW02 dbW03 tbW0 da10 da11 da12 da13 ta1
    have dbW00 := (Rows.bc (HR.out.right.left) 0 rfl).1
    have dbW01 := (Rows.bc (HR.out.right.left) 1 rfl).1
    have dbW02 := (Rows.bc (HR.out.right.left) 2 rfl).1
    have dbW03 := (Rows.bc (HR.out.right.left) 3 rfl).1
    have tbW0 := (Rows.bc (HR.out.right.left) 0 rfl).2
    have da10 := (Rows.bc (HR.out.right.right) 0 rfl).1
    have da11 := (Rows.bc (HR.out.right.right) 1 rfl).1
    have da12 := (Rows.bc (HR.out.right.right) 2 rfl).1
    have da13 := (Rows.bc (HR.out.right.right) 3 rfl).1
    have ta1 := (Rows.bc (HR.out.right.right) 0 rfl).2
    go_wp2_with fail
    refine (toRecord_c nm1 lv1 tx1 sq1 _).mono ?_
    rintro e w52 ⟨rfl, hb⟩
    replace HR := hid (HR.out.below hb)
    replace HB := hid (HB.out.trans (hb.mono HB.out.size))
    clear hb
    clear dbW00 dbW01 dbW02 dbW03 tbW0 da10 da11 da12 da13 ta1
    have dbW00 := (Rows.bc (HR.out.right.left) 0 rfl).1
    have dbW01 := (Rows.bc (HR.out.right.left) 1 rfl).1
    have dbW02 := (Rows.bc (HR.out.right.left) 2 rfl).1
    have dbW03 := (Rows.bc (HR.out.right.left) 3 rfl).1
    have tbW0 := (Rows.bc (HR.out.right.left) 0 rfl).2
    have da10 := (Rows.bc (HR.out.right.right) 0 rfl).1
    have da11 := (Rows.bc (HR.out.right.right) 1 rfl).1
    have da12 := (Rows.bc (HR.out.right.right) 2 rfl).1
    have da13 := (Rows.bc (HR.out.right.right) 3 rfl).1
    have ta1 := (Rows.bc (HR.out.right.right) 0 rfl).2
    go_wp2_with fail
    refine (cI.out _ _ (Sx0.out.at_ (HR.out.left) F0.out)).mono ?_
    rintro e w53 ⟨rfl, hb⟩
    replace HR := hid (HR.out.below hb)
    replace HB := hid (HB.out.trans (hb.mono HB.out.size))
    clear hb
    clear dbW00 dbW01 dbW02 dbW03 tbW0 da10 da11 da12 da13 ta1
    have dbW00 := (Rows.bc (HR.out.right.left) 0 rfl).1
    have dbW01 := (Rows.bc (HR.out.right.left) 1 rfl).1
    have dbW02 := (Rows.bc (HR.out.right.left) 2 rfl).1
    have dbW03 := (Rows.bc (HR.out.right.left) 3 rfl).1
    have tbW0 := (Rows.bc (HR.out.right.left) 0 rfl).2
    have da10 := (Rows.bc (HR.out.right.right) 0 rfl).1
    have da11 := (Rows.bc (HR.out.right.right) 1 rfl).1
    have da12 := (Rows.bc (HR.out.right.right) 2 rfl).1
    have da13 := (Rows.bc (HR.out.right.right) 3 rfl).1
    have ta1 := (Rows.bc (HR.out.right.right) 0 rfl).2
    have hb : Below w53.heap.size w53 (w53.alloc (.cells #[.string Z0nm, .int .i64 Z0lv, .string Z0tx, .int .i64 Z0sq] 27)) := (Below.refl _ _).alloc (Nat.le_refl _) _
    have hr := Rows.box w53 #[.string Z0nm, .int .i64 Z0lv, .string Z0tx, .int .i64 Z0sq] 27 4 rfl
    replace HR := hid (HR.out.newer hb hr HB.out.size)
    replace HB := hid (HB.out.trans (hb.mono HB.out.size))
    clear hb hr
    clear dbW00 dbW01 dbW02 dbW03 tbW0 da10 da11 da12 da13 ta1
    have dbG00 := (Rows.bc (HR.out.left) 0 rfl).1
    have dbG01 := (Rows.bc (HR.out.left) 1 rfl).1
    have dbG02 := (Rows.bc (HR.out.left) 2 rfl).1
    have dbG03 := (Rows.bc (HR.out.left) 3 rfl).1
    have tbG0 := (Rows.bc (HR.out.left) 0 rfl).2
    have dbW00 := (Rows.bc (HR.out.right.right.left) 0 rfl).1
    have dbW01 := (Rows.bc (HR.out.right.right.left) 1 rfl).1
    have dbW02 := (Rows.bc (HR.out.right.right.left) 2 rfl).1
    have dbW03 := (Rows.bc (HR.out.right.right.left) 3 rfl).1
    have tbW0 := (Rows.bc (HR.out.right.right.left) 0 rfl).2
    have da10 := (Rows.bc (HR.out.right.right.right) 0 rfl).1
    have da11 := (Rows.bc (HR.out.right.right.right) 1 rfl).1
    have da12 := (Rows.bc (HR.out.right.right.right) 2 rfl).1
    have da13 := (Rows.bc (HR.out.right.right.right) 3 rfl).1
    have ta1 := (Rows.bc (HR.out.right.right.right) 0 rfl).2
    go_wp2_with fail
    refine (eqRecord_c _ _ _ _ _).mono ?_
    rintro e w54 ⟨rfl, hb⟩
    replace HR := hid (HR.out.below hb)
    replace HB := hid (HB.out.trans (hb.mono HB.out.size))
    clear hb
    clear dbG00 dbG01 dbG02 dbG03 tbG0 dbW00 dbW01 dbW02 dbW03 tbW0 da10 da11 da12 da13 ta1
    have dbG00 := (Rows.bc (HR.out.left) 0 rfl).1
    have dbG01 := (Rows.bc (HR.out.left) 1 rfl).1
    have dbG02 := (Rows.bc (HR.out.left) 2 rfl).1
    have dbG03 := (Rows.bc (HR.out.left) 3 rfl).1
    have tbG0 := (Rows.bc (HR.out.left) 0 rfl).2
    have dbW00 := (Rows.bc (HR.out.right.right.left) 0 rfl).1
    have dbW01 := (Rows.bc (HR.out.right.right.left) 1 rfl).1
    have dbW02 := (Rows.bc (HR.out.right.right.left) 2 rfl).1
    have dbW03 := (Rows.bc (HR.out.right.right.left) 3 rfl).1
    have tbW0 := (Rows.bc (HR.out.right.right.left) 0 rfl).2
    have da10 := (Rows.bc (HR.out.right.right.right) 0 rfl).1
    have da11 := (Rows.bc (HR.out.right.right.right) 1 rfl).1
    have da12 := (Rows.bc (HR.out.right.right.right) 2 rfl).1
    have da13 := (Rows.bc (HR.out.right.right.right) 3 rfl).1
    have ta1 := (Rows.bc (HR.out.right.right.right) 0 rfl).2
    go_wp2_with fail
    refine (toFltsY_c A0 n0 c0 d0 w.heap.size _ (T0.out.below HB.out (Nat.le_refl _)) HB.out.size F0.out).mono ?_
    rintro e w55 ⟨v, rsy0, rfl, hs, hr, hb⟩
    obtain ⟨fy00, fy01, fy02, rfl⟩ := hs.form hr
    have Sy0 := hid hs
    clear hs
    replace HR := hid (HR.out.newer hb hr HB.out.size)
    replace HB := hid (HB.out.trans (hb.mono HB.out.size))
    clear hb hr
    clear dbG00 dbG01 dbG02 dbG03 tbG0 dbW00 dbW01 dbW02 dbW03 tbW0 da10 da11 da12 da13 ta1
    have dbG00 := (Rows.bc (HR.out.right.left) 0 rfl).1
    have dbG01 := (Rows.bc (HR.out.right.left) 1 rfl).1
    have dbG02 := (Rows.bc (HR.out.right.left) 2 rfl).1
    have dbG03 := (Rows.bc (HR.out.right.left) 3 rfl).1
    have tbG0 := (Rows.bc (HR.out.right.left) 0 rfl).2
    have dbW00 := (Rows.bc (HR.out.right.right.right.left) 0 rfl).1
    have dbW01 := (Rows.bc (HR.out.right.right.right.left) 1 rfl).1
    have dbW02 := (Rows.bc (HR.out.right.right.right.left) 2 rfl).1
    have dbW03 := (Rows.bc (HR.out.right.right.right.left) 3 rfl).1
    have tbW0 := (Rows.bc (HR.out.right.right.right.left) 0 rfl).2
    have da10 := (Rows.bc (HR.out.right.right.right.right) 0 rfl).1
    have da11 := (Rows.bc (HR.out.right.right.right.right) 1 rfl).1
    have da12 := (Rows.bc (HR.out.right.right.right.right) 2 rfl).1
    have da13 := (Rows.bc (HR.out.right.right.right.right) 3 rfl).1
    have ta1 := (Rows.bc (HR.out.right.right.right.right) 0 rfl).2
    go_wp2_with fail
    refine (eqFltsX_c Sx0.out (HR.out.right.right.left) Sy0.out (HR.out.left)).mono ?_
    rintro e w56 ⟨rfl, hb⟩
    replace HR := hid (HR.out.below hb)
    replace HB := hid (HB.out.trans (hb.mono HB.out.size))
    clear hb
    clear dbG00 dbG01 dbG02 dbG03 tbG0 dbW00 dbW01 dbW02 dbW03 tbW0 da10 da11 da12 da13 ta1
    have dbG00 := (Rows.bc (HR.out.right.left) 0 rfl).1
    have dbG01 := (Rows.bc (HR.out.right.left) 1 rfl).1
    have dbG02 := (Rows.bc (HR.out.right.left) 2 rfl).1
    have dbG03 := (Rows.bc (HR.out.right.left) 3 rfl).1
    have tbG0 := (Rows.bc (HR.out.right.left) 0 rfl).2
    have dbW00 := (Rows.bc (HR.out.right.right.right.left) 0 rfl).1
    have dbW01 := (Rows.bc (HR.out.right.right.right.left) 1 rfl).1
    have dbW02 := (Rows.bc (HR.out.right.right.right.left) 2 rfl).1
    have dbW03 := (Rows.bc (HR.out.right.right.right.left) 3 rfl).1
    have tbW0 := (Rows.bc (HR.out.right.right.right.left) 0 rfl).2
    have da10 := (Rows.bc (HR.out.right.right.right.right) 0 rfl).1
    have da11 := (Rows.bc (HR.out.right.right.right.right) 1 rfl).1
    have da12 := (Rows.bc (HR.out.right.right.right.right) 2 rfl).1
    have da13 := (Rows.bc (HR.out.right.right.right.right) 3 rfl).1
    have ta1 := (Rows.bc (HR.out.right.right.right.right) 0 rfl).2
    replace HR := hid (HR.out.sub (List.sublist_append_right _ _))
    clear Sy0
    clear dbG00 dbG01 dbG02 dbG03 tbG0 dbW00 dbW01 dbW02 dbW03 tbW0 da10 da11 da12 da13 ta1
    have dbG00 := (Rows.bc (HR.out.left) 0 rfl).1
    have dbG01 := (Rows.bc (HR.out.left) 1 rfl).1
    have dbG02 := (Rows.bc (HR.out.left) 2 rfl).1
    have dbG03 := (Rows.bc (HR.out.left) 3 rfl).1
    have tbG0 := (Rows.bc (HR.out.left) 0 rfl).2
    have dbW00 := (Rows.bc (HR.out.right.right.left) 0 rfl).1
    have dbW01 := (Rows.bc (HR.out.right.right.left) 1 rfl).1
    have dbW02 := (Rows.bc (HR.out.right.right.left) 2 rfl).1
    have dbW03 := (Rows.bc (HR.out.right.right.left) 3 rfl).1
    have tbW0 := (Rows.bc (HR.out.right.right.left) 0 rfl).2
    have da10 := (Rows.bc (HR.out.right.right.right) 0 rfl).1
    have da11 := (Rows.bc (HR.out.right.right.right) 1 rfl).1
    have da12 := (Rows.bc (HR.out.right.right.right) 2 rfl).1
    have da13 := (Rows.bc (HR.out.right.right.right) 3 rfl).1
    have ta1 := (Rows.bc (HR.out.right.right.right) 0 rfl).2
    go_wp2_with fail
    go_ret
    exact ⟨rfl, HB.out⟩
end Go.Proofs.Yteekkccgdkmjoaa
