/-
  WALK: the law FnExactAddHandler. By gen_any.py.
-/
import Derived.Deep.Cut
import Derived.Test.YtbidlmejonpadaaAH5
import Derived.Test.YtbidlmejonpadaaApp
import Derived.Test.YtbidlmejonpadaaKTre
import Derived.Test.YtbidlmejonpadaaKHdl
namespace Go.Proofs.Ytbidlmejonpadaa
open Go.RowKit Nm
set_option linter.unusedSimpArgs false
set_option linter.unusedVariables false

set_option maxHeartbeats 16000000 in
set_option maxRecDepth 100000 in
theorem walk_FnExactAddHandler (Aa0 : Option Addr) (na0 ca0 : Nat) (Ab0 : Option Addr) (nb0 cb0 : Nat) (d0 : TreeD) (A1 : Option Addr) (n1 c1 : Nat) (d1 : Hnd) (w : World) (t0 : TreRaw w w.heap.size Aa0 na0 ca0 Ab0 nb0 cb0 d0) (t1 : HdlRaw w w.heap.size A1 n1 c1 d1) :
    Calls Try.prog 5 #[.agg #[.slice Aa0 na0 ca0, .slice Ab0 nb0 cb0, .int .i64 d0.2.2], .agg #[.string ⟨d1.nm.toArray⟩, .int .i64 d1.lv, .slice A1 n1 c1]] w (BoolPost w true) := by
  have T0 := hid t0
  clear t0
  have T1 := hid t1
  clear t1
  have HB := hid (Below.refl w.heap.size w)
  have hr : Rows (w.alloc (.cells #[.slice Aa0 na0 ca0, .slice Ab0 nb0 cb0, .int .i64 d0.2.2] 25)) w.heap.size [bxRow 25 3 (w.heap.size) [.slice Aa0 na0 ca0, .slice Ab0 nb0 cb0, .int .i64 d0.2.2]] := by have h := Rows.box w #[.slice Aa0 na0 ca0, .slice Ab0 nb0 cb0, .int .i64 d0.2.2] 25 3 rfl; simpa using h
  have hb : Below w.heap.size w (w.alloc (.cells #[.slice Aa0 na0 ca0, .slice Ab0 nb0 cb0, .int .i64 d0.2.2] 25)) := (Below.refl _ _).alloc (Nat.le_refl _) _
  have HR := hid hr
  replace HB := hid (HB.out.trans (hb.mono HB.out.size))
  clear hb hr
  have hr : Rows ((w.alloc (.cells #[.slice Aa0 na0 ca0, .slice Ab0 nb0 cb0, .int .i64 d0.2.2] 25)).alloc (.cells #[.string ⟨d1.nm.toArray⟩, .int .i64 d1.lv, .slice A1 n1 c1] 43)) (w.alloc (.cells #[.slice Aa0 na0 ca0, .slice Ab0 nb0 cb0, .int .i64 d0.2.2] 25)).heap.size [bxRow 43 3 (w.heap.size + 1) [.string ⟨d1.nm.toArray⟩, .int .i64 d1.lv, .slice A1 n1 c1]] := by have h := Rows.box (w.alloc (.cells #[.slice Aa0 na0 ca0, .slice Ab0 nb0 cb0, .int .i64 d0.2.2] 25)) #[.string ⟨d1.nm.toArray⟩, .int .i64 d1.lv, .slice A1 n1 c1] 43 3 rfl; simpa using h
  have hb : Below (w.alloc (.cells #[.slice Aa0 na0 ca0, .slice Ab0 nb0 cb0, .int .i64 d0.2.2] 25)).heap.size (w.alloc (.cells #[.slice Aa0 na0 ca0, .slice Ab0 nb0 cb0, .int .i64 d0.2.2] 25)) ((w.alloc (.cells #[.slice Aa0 na0 ca0, .slice Ab0 nb0 cb0, .int .i64 d0.2.2] 25)).alloc (.cells #[.string ⟨d1.nm.toArray⟩, .int .i64 d1.lv, .slice A1 n1 c1] 43)) := (Below.refl _ _).alloc (Nat.le_refl _) _
  replace HR := hid (HR.out.newer hb hr HB.out.size)
  replace HB := hid (HB.out.trans (hb.mono HB.out.size))
  clear hb hr
  have da10 := (Rows.bc (HR.out.left) 0 rfl).1
  have da11 := (Rows.bc (HR.out.left) 1 rfl).1
  have da12 := (Rows.bc (HR.out.left) 2 rfl).1
  have ta1 := (Rows.bc (HR.out.left) 0 rfl).2
  have da00 := (Rows.bc (HR.out.right) 0 rfl).1
  have da01 := (Rows.bc (HR.out.right) 1 rfl).1
  have da02 := (Rows.bc (HR.out.right) 2 rfl).1
  have ta0 := (Rows.bc (HR.out.right) 0 rfl).2
  go_enter Try.func5, Try.ntmps5
  go_wp2_with fail
  refine (szTreY_c Aa0 na0 ca0 Ab0 nb0 cb0 d0 w.heap.size _ _ (T0.out.below HB.out (Nat.le_refl _)) HB.out.size (by omega) (by omega)).mono ?_
  rintro e w1 ⟨r0, rfl, hb, hr⟩
  replace HR := hid (HR.out.below hb)
  replace HB := hid (HB.out.trans (hb.mono HB.out.size))
  clear hb
  clear da10 da11 da12 ta1 da00 da01 da02 ta0
  have da10 := (Rows.bc (HR.out.left) 0 rfl).1
  have da11 := (Rows.bc (HR.out.left) 1 rfl).1
  have da12 := (Rows.bc (HR.out.left) 2 rfl).1
  have ta1 := (Rows.bc (HR.out.left) 0 rfl).2
  have da00 := (Rows.bc (HR.out.right) 0 rfl).1
  have da01 := (Rows.bc (HR.out.right) 1 rfl).1
  have da02 := (Rows.bc (HR.out.right) 2 rfl).1
  have ta0 := (Rows.bc (HR.out.right) 0 rfl).2
  rcases hr with hr | ⟨hr0, hr1, hfit⟩
  · go_wp2_with fail
    go_ret
    exact ⟨rfl, HB.out⟩
  have F0 := hid hfit
  clear hfit
  go_wp2_with fail
  refine (szHandlerY_c A1 n1 c1 d1 w.heap.size _ _ (T1.out.below HB.out (Nat.le_refl _)) HB.out.size (by omega) (by omega)).mono ?_
  rintro e w2 ⟨r1, rfl, hb, hr⟩
  replace HR := hid (HR.out.below hb)
  replace HB := hid (HB.out.trans (hb.mono HB.out.size))
  clear hb
  clear da10 da11 da12 ta1 da00 da01 da02 ta0
  have da10 := (Rows.bc (HR.out.left) 0 rfl).1
  have da11 := (Rows.bc (HR.out.left) 1 rfl).1
  have da12 := (Rows.bc (HR.out.left) 2 rfl).1
  have ta1 := (Rows.bc (HR.out.left) 0 rfl).2
  have da00 := (Rows.bc (HR.out.right) 0 rfl).1
  have da01 := (Rows.bc (HR.out.right) 1 rfl).1
  have da02 := (Rows.bc (HR.out.right) 2 rfl).1
  have ta0 := (Rows.bc (HR.out.right) 0 rfl).2
  rcases hr with hr | ⟨hr0, hr1, hfit⟩
  · go_wp2_with fail
    go_ret
    exact ⟨rfl, HB.out⟩
  have F1 := hid hfit
  clear hfit
  have cS : ∀ (W : World) (v0 : Value) (h0 : TreIn W W.heap.size v0 d0) (v1 : Value) (h1 : HdlIn W W.heap.size v1 d1), Calls Try.prog 23 #[v0, v1] W (fun e w2 => ∃ (u0 : Value) (rs0 : List Row), e = .returned (.tuple #[u0, .bool ((addHdX d0.1 d0.2.1 d0.2.2 d1).isSome)]) ∧ TreR rs0 u0 (resD (addHdX d0.1 d0.2.1 d0.2.2 d1)) ∧ Rows w2 W.heap.size (rs0) ∧ Below W.heap.size W w2) := fun W v0 h0 v1 h1 => by obtain ⟨A9, n9, c9, rfl, hs9, hf9, hn9⟩ := h1; exact specAddHandler_c ⟨d1.nm.toArray⟩ d1.lv h0 (Nat.le_refl _) hs9 (Nat.le_refl _) hf9 hn9
  have cI : ∀ (W : World) (v0 : Value) (h0 : TreIn W W.heap.size v0 d0) (v1 : Value) (h1 : HdlIn W W.heap.size v1 d1), Calls Try.prog 25 #[v0, v1] W (fun e w2 => ∃ (u0 : Value) (rs0 : List Row), e = .returned (.tuple #[u0, .bool ((addHdX d0.1 d0.2.1 d0.2.2 d1).isSome)]) ∧ TreR rs0 u0 (resD (addHdX d0.1 d0.2.1 d0.2.2 d1)) ∧ Rows w2 W.heap.size (rs0) ∧ Below W.heap.size W w2) := fun W v0 h0 v1 h1 => by obtain ⟨A9, n9, c9, rfl, hs9, hf9, hn9⟩ := h1; exact implAddHandler_c ⟨d1.nm.toArray⟩ d1.lv h0 (Nat.le_refl _) hs9 (Nat.le_refl _) hf9 hn9
  have DX0 : TreFit (resD (addHdX d0.1 d0.2.1 d0.2.2 d1)) := addHd_res_fit _ _ _ _
  generalize resD (addHdX d0.1 d0.2.1 d0.2.2 d1) = X0 at cS cI DX0
  replace DX0 := hid DX0
  generalize (addHdX d0.1 d0.2.1 d0.2.2 d1).isSome = X1 at cS cI
  have hX1 : (X1 == X1) = true := by simp
  replace cS := hid cS
  replace cI := hid cI
  go_wp2_with fail
  go_cut [6, 7] from 17 (fun s6 s7 wc => ∃ (bb : Nat) (fW00 : Option Addr) (fW01 : Nat) (fW02 : Nat) (fW03 : Option Addr) (fW04 : Nat) (fW05 : Nat) (rsW0 : List Row) (rss1 : List Row) (vs1 : Value) (rss0 : List Row) (vs0 : Value), s6 = .pointer (some ⟨bb, 0, none⟩) ∧ s7 = .bool X1 ∧ TreR rsW0 (.agg #[.slice fW00 fW01 fW02, .slice fW03 fW04 fW05, .int .i64 X0.2.2]) X0 ∧ HdlR rss1 vs1 d1 ∧ TreR rss0 vs0 d0 ∧ Rows wc w.heap.size ([bxRow 32 3 (bb) [.slice fW00 fW01 fW02, .slice fW03 fW04 fW05, .int .i64 X0.2.2]] ++ (rsW0 ++ (rss1 ++ (rss0 ++ ([bxRow 43 3 (w.heap.size + 1) [.string ⟨d1.nm.toArray⟩, .int .i64 d1.lv, .slice A1 n1 c1]] ++ ([bxRow 25 3 (w.heap.size) [.slice Aa0 na0 ca0, .slice Ab0 nb0 cb0, .int .i64 d0.2.2]])))))) ∧ Below w.heap.size w wc)
  case first =>
    refine wp_region_held_drew (S := (fun w' : World => w'.cell? ⟨w.heap.size, 0, none⟩ = some (.slice Aa0 na0 ca0) ∧ w'.cell? ⟨w.heap.size, 1, none⟩ = some (.slice Ab0 nb0 cb0) ∧ w'.cell? ⟨w.heap.size, 2, none⟩ = some (.int .i64 d0.2.2) ∧ w'.cell? ⟨w.heap.size + 1, 0, none⟩ = some (.string ⟨d1.nm.toArray⟩) ∧ w'.cell? ⟨w.heap.size + 1, 1, none⟩ = some (.int .i64 d1.lv) ∧ w'.cell? ⟨w.heap.size + 1, 2, none⟩ = some (.slice A1 n1 c1))) (by kernel_rfl) ⟨da00, da01, da02, da10, da11, da12⟩ (fun hS => ?_)
    refine wpAnyH_take (i := 0) (oi := ?oi101) (v := ?v101) ?hi101 (by kernel_rfl) ?hf101 ?hr101 ?hQ101 (Or.inl ⟨?hw101, ?hy101⟩) (by assumption) ?rest101
    case hi101 => simp only [List.getElem?_toArray, List.getElem?_cons_succ, List.getElem?_cons_zero]; rfl
    case hf101 => kernel_rfl
    case hr101 => kernel_rfl
    case hw101 => rfl
    case hy101 => (intro w hSw; (try dsimp only at hSw); go_simp; all_goals (first | done | with_reducible rfl))
    case hQ101 => exact fun _ _ _ h => h
    simp only [Act.put, List.setIfInBounds_toArray, List.set_cons_zero, List.set_cons_succ]
    refine wpAnyH_take (i := 2) (oi := ?oi102) (v := ?v102) ?hi102 (by kernel_rfl) ?hf102 ?hr102 ?hQ102 (Or.inl ⟨?hw102, ?hy102⟩) (by assumption) ?rest102
    case hi102 => simp only [List.getElem?_toArray, List.getElem?_cons_succ, List.getElem?_cons_zero]; rfl
    case hf102 => kernel_rfl
    case hr102 => kernel_rfl
    case hw102 => rfl
    case hy102 => (intro w hSw; (try dsimp only at hSw); go_simp; all_goals (first | done | with_reducible rfl))
    case hQ102 => exact fun _ _ _ h => h
    simp only [Act.put, List.setIfInBounds_toArray, List.set_cons_zero, List.set_cons_succ]
    replace HR := hid (HR.out.below ((Below.refl w2.heap.size w2).drew))
    replace HB := hid HB.out.drew
    clear da10 da11 da12 ta1 da00 da01 da02 ta0
    generalize w2.drew = w3 at *
    have da10 := (Rows.bc (HR.out.left) 0 rfl).1
    have da11 := (Rows.bc (HR.out.left) 1 rfl).1
    have da12 := (Rows.bc (HR.out.left) 2 rfl).1
    have ta1 := (Rows.bc (HR.out.left) 0 rfl).2
    have da00 := (Rows.bc (HR.out.right) 0 rfl).1
    have da01 := (Rows.bc (HR.out.right) 1 rfl).1
    have da02 := (Rows.bc (HR.out.right) 2 rfl).1
    have ta0 := (Rows.bc (HR.out.right) 0 rfl).2
    refine wpAnyH_ready (rs := [1, 8]) (by kernel_rfl) (by simp) ?_
    refine AllReadyH.cons (o := ?oi103) ?hi103 (fun K hK => ?stepA103) (AllReadyH.cons (o := ?oj103) ?hj103 (fun K hK => ?stepB103) AllReadyH.nil)
    case hi103 => simp only [List.getElem?_toArray, List.getElem?_cons_succ, List.getElem?_cons_zero]; rfl
    case hj103 => simp only [List.getElem?_toArray, List.getElem?_cons_succ, List.getElem?_cons_zero]; rfl
    all_goals rw [if_pos (by rfl)]
    all_goals go_simp
    · go_at_call 13
      refine (toTreY_c Aa0 na0 ca0 Ab0 nb0 cb0 d0 w.heap.size _ (T0.out.below HB.out (Nat.le_refl _)) HB.out.size F0.out).mono ?_
      rintro e w4 ⟨v, rss0, rfl, hs, hr, hb⟩
      obtain ⟨fs00, fs01, fs02, fs03, fs04, fs05, rfl⟩ := hs.form hr
      have Ss0 := hid hs
      clear hs
      replace HR := hid (HR.out.newer hb hr HB.out.size)
      replace HB := hid (HB.out.trans (hb.mono HB.out.size))
      clear hb hr
      clear da10 da11 da12 ta1 da00 da01 da02 ta0
      have da10 := (Rows.bc (HR.out.right.left) 0 rfl).1
      have da11 := (Rows.bc (HR.out.right.left) 1 rfl).1
      have da12 := (Rows.bc (HR.out.right.left) 2 rfl).1
      have ta1 := (Rows.bc (HR.out.right.left) 0 rfl).2
      have da00 := (Rows.bc (HR.out.right.right) 0 rfl).1
      have da01 := (Rows.bc (HR.out.right.right) 1 rfl).1
      have da02 := (Rows.bc (HR.out.right.right) 2 rfl).1
      have ta0 := (Rows.bc (HR.out.right.right) 0 rfl).2
      refine hK.out _ _ ⟨da00, da01, da02, da10, da11, da12⟩ (fun hS9 => ?_)
      refine wpAnyH_ready (rs := [3, 8]) (by kernel_rfl) (by simp) ?_
      refine AllReadyH.cons (o := ?oi104) ?hi104 (fun K hK => ?stepA104) (AllReadyH.cons (o := ?oj104) ?hj104 (fun K hK => ?stepB104) AllReadyH.nil)
      case hi104 => simp only [List.getElem?_toArray, List.getElem?_cons_succ, List.getElem?_cons_zero]; rfl
      case hj104 => simp only [List.getElem?_toArray, List.getElem?_cons_succ, List.getElem?_cons_zero]; rfl
      all_goals rw [if_pos (by rfl)]
      all_goals go_simp
      · go_at_call 24
        refine (toHandlerY_c A1 n1 c1 d1 w.heap.size _ (T1.out.below HB.out (Nat.le_refl _)) HB.out.size F1.out).mono ?_
        rintro e w5 ⟨v, rss1, rfl, hs, hr, hb⟩
        obtain ⟨fs10, fs11, fs12, rfl⟩ := hs.form hr
        have Ss1 := hid hs
        clear hs
        replace HR := hid (HR.out.newer hb hr HB.out.size)
        replace HB := hid (HB.out.trans (hb.mono HB.out.size))
        clear hb hr
        clear da10 da11 da12 ta1 da00 da01 da02 ta0
        have da10 := (Rows.bc (HR.out.right.right.left) 0 rfl).1
        have da11 := (Rows.bc (HR.out.right.right.left) 1 rfl).1
        have da12 := (Rows.bc (HR.out.right.right.left) 2 rfl).1
        have ta1 := (Rows.bc (HR.out.right.right.left) 0 rfl).2
        have da00 := (Rows.bc (HR.out.right.right.right) 0 rfl).1
        have da01 := (Rows.bc (HR.out.right.right.right) 1 rfl).1
        have da02 := (Rows.bc (HR.out.right.right.right) 2 rfl).1
        have ta0 := (Rows.bc (HR.out.right.right.right) 0 rfl).2
        refine hK.out _ _ ⟨da00, da01, da02, da10, da11, da12⟩ (fun hS9 => ?_)
        refine wpAnyH_ready (rs := [4, 8]) (by kernel_rfl) (by simp) ?_
        refine AllReadyH.cons (o := ?oi105) ?hi105 (fun K hK => ?stepA105) (AllReadyH.cons (o := ?oj105) ?hj105 (fun K hK => ?stepB105) AllReadyH.nil)
        case hi105 => simp only [List.getElem?_toArray, List.getElem?_cons_succ, List.getElem?_cons_zero]; rfl
        case hj105 => simp only [List.getElem?_toArray, List.getElem?_cons_succ, List.getElem?_cons_zero]; rfl
        all_goals rw [if_pos (by rfl)]
        all_goals go_simp
        · go_at_call 23
          refine (cS.out _ _ (Ss0.out.at_ (HR.out.right.left) F0.out) _ (Ss1.out.at_ (HR.out.left) F1.out)).mono ?_
          rintro e w6 ⟨v0, rsW0, rfl, hs0, hr, hb⟩
          obtain ⟨fW00, fW01, fW02, fW03, fW04, fW05, rfl⟩ := hs0.form hr
          have SW0 := hid hs0
          clear hs0
          replace HR := hid (HR.out.newer hb hr HB.out.size)
          replace HB := hid (HB.out.trans (hb.mono HB.out.size))
          clear hb hr
          clear da10 da11 da12 ta1 da00 da01 da02 ta0
          have da10 := (Rows.bc (HR.out.right.right.right.left) 0 rfl).1
          have da11 := (Rows.bc (HR.out.right.right.right.left) 1 rfl).1
          have da12 := (Rows.bc (HR.out.right.right.right.left) 2 rfl).1
          have ta1 := (Rows.bc (HR.out.right.right.right.left) 0 rfl).2
          have da00 := (Rows.bc (HR.out.right.right.right.right) 0 rfl).1
          have da01 := (Rows.bc (HR.out.right.right.right.right) 1 rfl).1
          have da02 := (Rows.bc (HR.out.right.right.right.right) 2 rfl).1
          have ta0 := (Rows.bc (HR.out.right.right.right.right) 0 rfl).2
          refine hK.out _ _ ⟨da00, da01, da02, da10, da11, da12⟩ (fun hS9 => ?_)
          refine wpAnyH_take (i := 5) (oi := ?oi106) (v := ?v106) ?hi106 (by kernel_rfl) ?hf106 ?hr106 ?hQ106 (Or.inl ⟨?hw106, ?hy106⟩) (by assumption) ?rest106
          case hi106 => simp only [List.getElem?_toArray, List.getElem?_cons_succ, List.getElem?_cons_zero]; rfl
          case hf106 => kernel_rfl
          case hr106 => kernel_rfl
          case hw106 => rfl
          case hy106 => (intro w hSw; (try dsimp only at hSw); go_simp; all_goals (first | done | with_reducible rfl))
          case hQ106 => exact fun _ _ _ h => h
          simp only [Act.put, List.setIfInBounds_toArray, List.set_cons_zero, List.set_cons_succ]
          refine wpAnyH_take (i := 6) (oi := ?oi107) (v := ?v107) ?hi107 (by kernel_rfl) ?hf107 ?hr107 ?hQ107 (Or.inl ⟨?hw107, ?hy107⟩) (by assumption) ?rest107
          case hi107 => simp only [List.getElem?_toArray, List.getElem?_cons_succ, List.getElem?_cons_zero]; rfl
          case hf107 => kernel_rfl
          case hr107 => kernel_rfl
          case hw107 => rfl
          case hy107 => (intro w hSw; (try dsimp only at hSw); go_simp; all_goals (first | done | with_reducible rfl))
          case hQ107 => exact fun _ _ _ h => h
          simp only [Act.put, List.setIfInBounds_toArray, List.set_cons_zero, List.set_cons_succ]
          refine wpAnyH_take (i := 7) (oi := ?oi108) (v := ?v108) ?hi108 (by kernel_rfl) ?hf108 ?hr108 ?hQ108 (Or.inl ⟨?hw108, ?hy108⟩) (by assumption) ?rest108
          case hi108 => simp only [List.getElem?_toArray, List.getElem?_cons_succ, List.getElem?_cons_zero]; rfl
          case hf108 => kernel_rfl
          case hr108 => kernel_rfl
          case hw108 => rfl
          case hy108 => (intro w hSw; (try dsimp only at hSw); go_simp; all_goals (first | done | with_reducible rfl))
          case hQ108 => exact fun _ _ _ h => h
          simp only [Act.put, List.setIfInBounds_toArray, List.set_cons_zero, List.set_cons_succ]
          refine wpAnyH_ready (rs := [8]) (by kernel_rfl) (by simp) ?_
          refine AllReadyH.cons (o := ?oi109) ?hi109 (fun K hK => ?step109) AllReadyH.nil
          case hi109 => simp only [List.getElem?_toArray, List.getElem?_cons_succ, List.getElem?_cons_zero]; rfl
          rw [if_pos (by rfl)]
          go_simp
          have ne_a0 : w6.heap.size ≠ w.heap.size := Nat.ne_of_gt ta0
          have ne_a1 : w6.heap.size ≠ w.heap.size + 1 := Nat.ne_of_gt ta1
          have nle : w.heap.size ≤ w6.heap.size := HB.out.size
          have hb : Below w6.heap.size w6 (w6.alloc (.cells #[.slice none 0 0, .slice none 0 0, .int .i64 0] 32)) := (Below.refl _ _).alloc (Nat.le_refl _) _
          have hr := Rows.box w6 #[.slice none 0 0, .slice none 0 0, .int .i64 0] 32 3 rfl
          replace HR := hid (HR.out.newer hb hr HB.out.size)
          replace HB := hid (HB.out.trans (hb.mono HB.out.size))
          clear hb hr
          clear da10 da11 da12 ta1 da00 da01 da02 ta0
          have dbW00 := (Rows.bc (HR.out.left) 0 rfl).1
          have dbW01 := (Rows.bc (HR.out.left) 1 rfl).1
          have dbW02 := (Rows.bc (HR.out.left) 2 rfl).1
          have tbW0 := (Rows.bc (HR.out.left) 0 rfl).2
          have da10 := (Rows.bc (HR.out.right.right.right.right.left) 0 rfl).1
          have da11 := (Rows.bc (HR.out.right.right.right.right.left) 1 rfl).1
          have da12 := (Rows.bc (HR.out.right.right.right.right.left) 2 rfl).1
          have ta1 := (Rows.bc (HR.out.right.right.right.right.left) 0 rfl).2
          have da00 := (Rows.bc (HR.out.right.right.right.right.right) 0 rfl).1
          have da01 := (Rows.bc (HR.out.right.right.right.right.right) 1 rfl).1
          have da02 := (Rows.bc (HR.out.right.right.right.right.right) 2 rfl).1
          have ta0 := (Rows.bc (HR.out.right.right.right.right.right) 0 rfl).2
          refine hK.out _ _ ⟨da00, da01, da02, da10, da11, da12⟩ (fun hS9 => ?_)
          clear dbW00 dbW01 dbW02 tbW0 da10 da11 da12 ta1 da00 da01 da02 ta0
          generalize (w6.alloc (.cells #[.slice none 0 0, .slice none 0 0, .int .i64 0] 32)) = w7 at *
          have dbW00 := (Rows.bc (HR.out.left) 0 rfl).1
          have dbW01 := (Rows.bc (HR.out.left) 1 rfl).1
          have dbW02 := (Rows.bc (HR.out.left) 2 rfl).1
          have tbW0 := (Rows.bc (HR.out.left) 0 rfl).2
          have da10 := (Rows.bc (HR.out.right.right.right.right.left) 0 rfl).1
          have da11 := (Rows.bc (HR.out.right.right.right.right.left) 1 rfl).1
          have da12 := (Rows.bc (HR.out.right.right.right.right.left) 2 rfl).1
          have ta1 := (Rows.bc (HR.out.right.right.right.right.left) 0 rfl).2
          have da00 := (Rows.bc (HR.out.right.right.right.right.right) 0 rfl).1
          have da01 := (Rows.bc (HR.out.right.right.right.right.right) 1 rfl).1
          have da02 := (Rows.bc (HR.out.right.right.right.right.right) 2 rfl).1
          have ta0 := (Rows.bc (HR.out.right.right.right.right.right) 0 rfl).2
          clear dbW00 dbW01 dbW02 tbW0 da10 da11 da12 ta1 da00 da01 da02 ta0
          have dbW00 := (Rows.bc (HR.out.left) 0 rfl).1
          have dbW01 := (Rows.bc (HR.out.left) 1 rfl).1
          have dbW02 := (Rows.bc (HR.out.left) 2 rfl).1
          have tbW0 := (Rows.bc (HR.out.left) 0 rfl).2
          have da10 := (Rows.bc (HR.out.right.right.right.right.left) 0 rfl).1
          have da11 := (Rows.bc (HR.out.right.right.right.right.left) 1 rfl).1
          have da12 := (Rows.bc (HR.out.right.right.right.right.left) 2 rfl).1
          have ta1 := (Rows.bc (HR.out.right.right.right.right.left) 0 rfl).2
          have da00 := (Rows.bc (HR.out.right.right.right.right.right) 0 rfl).1
          have da01 := (Rows.bc (HR.out.right.right.right.right.right) 1 rfl).1
          have da02 := (Rows.bc (HR.out.right.right.right.right.right) 2 rfl).1
          have ta0 := (Rows.bc (HR.out.right.right.right.right.right) 0 rfl).2
          have z0f : w7.frozen? ⟨w6.heap.size, 0, none⟩ = false := (Rows.bcell2 (T := 32) (d := 3) (cs := [.slice none 0 0, .slice none 0 0, .int .i64 0]) (pre := []) (q := 0) HR.out rfl).2.1
          have z1f : w7.frozen? ⟨w6.heap.size, 1, none⟩ = false := (Rows.bcell2 (T := 32) (d := 3) (cs := [.slice none 0 0, .slice none 0 0, .int .i64 0]) (pre := []) (q := 1) HR.out rfl).2.1
          have z2f : w7.frozen? ⟨w6.heap.size, 2, none⟩ = false := (Rows.bcell2 (T := 32) (d := 3) (cs := [.slice none 0 0, .slice none 0 0, .int .i64 0]) (pre := []) (q := 2) HR.out rfl).2.1
          refine wpAnyH_ready (rs := [9]) (by kernel_rfl) (by simp) ?_
          refine AllReadyH.cons (o := ?oi110) ?hi110 (fun K hK => ?step110) AllReadyH.nil
          case hi110 => simp only [List.getElem?_toArray, List.getElem?_cons_succ, List.getElem?_cons_zero]; rfl
          rw [if_pos (by rfl)]
          go_simp
          refine hK.out _ _ ⟨((World.cell?_setCell_far _ _ _ _ ne_a0).trans ((World.cell?_setCell_far _ _ _ _ ne_a0).trans ((World.cell?_setCell_far _ _ _ _ ne_a0).trans da00))), ((World.cell?_setCell_far _ _ _ _ ne_a0).trans ((World.cell?_setCell_far _ _ _ _ ne_a0).trans ((World.cell?_setCell_far _ _ _ _ ne_a0).trans da01))), ((World.cell?_setCell_far _ _ _ _ ne_a0).trans ((World.cell?_setCell_far _ _ _ _ ne_a0).trans ((World.cell?_setCell_far _ _ _ _ ne_a0).trans da02))), ((World.cell?_setCell_far _ _ _ _ ne_a1).trans ((World.cell?_setCell_far _ _ _ _ ne_a1).trans ((World.cell?_setCell_far _ _ _ _ ne_a1).trans da10))), ((World.cell?_setCell_far _ _ _ _ ne_a1).trans ((World.cell?_setCell_far _ _ _ _ ne_a1).trans ((World.cell?_setCell_far _ _ _ _ ne_a1).trans da11))), ((World.cell?_setCell_far _ _ _ _ ne_a1).trans ((World.cell?_setCell_far _ _ _ _ ne_a1).trans ((World.cell?_setCell_far _ _ _ _ ne_a1).trans da12)))⟩ (fun hS9 => ?_)
          refine wpAnyH_take (i := 10) (oi := ?oi111) (v := ?v111) ?hi111 (by kernel_rfl) ?hf111 ?hr111 ?hQ111 (Or.inl ⟨?hw111, ?hy111⟩) (by assumption) ?rest111
          case hi111 => simp only [List.getElem?_toArray, List.getElem?_cons_succ, List.getElem?_cons_zero]; rfl
          case hf111 => kernel_rfl
          case hr111 => kernel_rfl
          case hw111 => rfl
          case hy111 => (intro w hSw; (try dsimp only at hSw); go_simp; all_goals (first | done | with_reducible rfl))
          case hQ111 => exact fun _ _ _ h => h
          simp only [Act.put, List.setIfInBounds_toArray, List.set_cons_zero, List.set_cons_succ]
          refine wpAnyH_done (by kernel_rfl) ?_ _
          replace HR := hid (Rows.boxset (T := 32) (d := 3) (cs := [.slice none 0 0, .slice none 0 0, .int .i64 0]) (pre := []) (j := 0) (u := .slice fW00 fW01 fW02) HR.out)
          replace HR := hid (Rows.boxset (T := 32) (d := 3) (cs := [.slice fW00 fW01 fW02, .slice none 0 0, .int .i64 0]) (pre := []) (j := 1) (u := .slice fW03 fW04 fW05) HR.out)
          replace HR := hid (Rows.boxset (T := 32) (d := 3) (cs := [.slice fW00 fW01 fW02, .slice fW03 fW04 fW05, .int .i64 0]) (pre := []) (j := 2) (u := .int .i64 X0.2.2) HR.out)
          replace HB := hid (((HB.out.setCell (p := ⟨_, 0, none⟩) nle (.slice fW00 fW01 fW02)).setCell (p := ⟨_, 1, none⟩) nle (.slice fW03 fW04 fW05)).setCell (p := ⟨_, 2, none⟩) nle (.int .i64 X0.2.2))
          go_wp2_with fail
          go_meet
          case rel => exact ⟨_, _, _, _, _, _, _, _, _, _, _, _, rfl, rfl, SW0.out, Ss1.out, Ss0.out, HR.out, HB.out⟩
        · have ne_a0 : w5.heap.size ≠ w.heap.size := Nat.ne_of_gt ta0
          have ne_a1 : w5.heap.size ≠ w.heap.size + 1 := Nat.ne_of_gt ta1
          have nle : w.heap.size ≤ w5.heap.size := HB.out.size
          have hb : Below w5.heap.size w5 (w5.alloc (.cells #[.slice none 0 0, .slice none 0 0, .int .i64 0] 32)) := (Below.refl _ _).alloc (Nat.le_refl _) _
          have hr := Rows.box w5 #[.slice none 0 0, .slice none 0 0, .int .i64 0] 32 3 rfl
          replace HR := hid (HR.out.newer hb hr HB.out.size)
          replace HB := hid (HB.out.trans (hb.mono HB.out.size))
          clear hb hr
          clear da10 da11 da12 ta1 da00 da01 da02 ta0
          have dbW00 := (Rows.bc (HR.out.left) 0 rfl).1
          have dbW01 := (Rows.bc (HR.out.left) 1 rfl).1
          have dbW02 := (Rows.bc (HR.out.left) 2 rfl).1
          have tbW0 := (Rows.bc (HR.out.left) 0 rfl).2
          have da10 := (Rows.bc (HR.out.right.right.right.left) 0 rfl).1
          have da11 := (Rows.bc (HR.out.right.right.right.left) 1 rfl).1
          have da12 := (Rows.bc (HR.out.right.right.right.left) 2 rfl).1
          have ta1 := (Rows.bc (HR.out.right.right.right.left) 0 rfl).2
          have da00 := (Rows.bc (HR.out.right.right.right.right) 0 rfl).1
          have da01 := (Rows.bc (HR.out.right.right.right.right) 1 rfl).1
          have da02 := (Rows.bc (HR.out.right.right.right.right) 2 rfl).1
          have ta0 := (Rows.bc (HR.out.right.right.right.right) 0 rfl).2
          refine hK.out _ _ ⟨da00, da01, da02, da10, da11, da12⟩ (fun hS9 => ?_)
          clear dbW00 dbW01 dbW02 tbW0 da10 da11 da12 ta1 da00 da01 da02 ta0
          generalize (w5.alloc (.cells #[.slice none 0 0, .slice none 0 0, .int .i64 0] 32)) = w6 at *
          have dbW00 := (Rows.bc (HR.out.left) 0 rfl).1
          have dbW01 := (Rows.bc (HR.out.left) 1 rfl).1
          have dbW02 := (Rows.bc (HR.out.left) 2 rfl).1
          have tbW0 := (Rows.bc (HR.out.left) 0 rfl).2
          have da10 := (Rows.bc (HR.out.right.right.right.left) 0 rfl).1
          have da11 := (Rows.bc (HR.out.right.right.right.left) 1 rfl).1
          have da12 := (Rows.bc (HR.out.right.right.right.left) 2 rfl).1
          have ta1 := (Rows.bc (HR.out.right.right.right.left) 0 rfl).2
          have da00 := (Rows.bc (HR.out.right.right.right.right) 0 rfl).1
          have da01 := (Rows.bc (HR.out.right.right.right.right) 1 rfl).1
          have da02 := (Rows.bc (HR.out.right.right.right.right) 2 rfl).1
          have ta0 := (Rows.bc (HR.out.right.right.right.right) 0 rfl).2
          refine wpAnyH_ready (rs := [4]) (by kernel_rfl) (by simp) ?_
          refine AllReadyH.cons (o := ?oi112) ?hi112 (fun K hK => ?step112) AllReadyH.nil
          case hi112 => simp only [List.getElem?_toArray, List.getElem?_cons_succ, List.getElem?_cons_zero]; rfl
          rw [if_pos (by rfl)]
          go_simp
          go_at_call 23
          refine (cS.out _ _ (Ss0.out.at_ (HR.out.right.right.left) F0.out) _ (Ss1.out.at_ (HR.out.right.left) F1.out)).mono ?_
          rintro e w7 ⟨v0, rsW0, rfl, hs0, hr, hb⟩
          obtain ⟨fW00, fW01, fW02, fW03, fW04, fW05, rfl⟩ := hs0.form hr
          have SW0 := hid hs0
          clear hs0
          replace HR := hid (HR.out.newer hb hr HB.out.size)
          replace HB := hid (HB.out.trans (hb.mono HB.out.size))
          clear hb hr
          clear dbW00 dbW01 dbW02 tbW0 da10 da11 da12 ta1 da00 da01 da02 ta0
          have dbW00 := (Rows.bc (HR.out.right.left) 0 rfl).1
          have dbW01 := (Rows.bc (HR.out.right.left) 1 rfl).1
          have dbW02 := (Rows.bc (HR.out.right.left) 2 rfl).1
          have tbW0 := (Rows.bc (HR.out.right.left) 0 rfl).2
          have da10 := (Rows.bc (HR.out.right.right.right.right.left) 0 rfl).1
          have da11 := (Rows.bc (HR.out.right.right.right.right.left) 1 rfl).1
          have da12 := (Rows.bc (HR.out.right.right.right.right.left) 2 rfl).1
          have ta1 := (Rows.bc (HR.out.right.right.right.right.left) 0 rfl).2
          have da00 := (Rows.bc (HR.out.right.right.right.right.right) 0 rfl).1
          have da01 := (Rows.bc (HR.out.right.right.right.right.right) 1 rfl).1
          have da02 := (Rows.bc (HR.out.right.right.right.right.right) 2 rfl).1
          have ta0 := (Rows.bc (HR.out.right.right.right.right.right) 0 rfl).2
          refine hK.out _ _ ⟨da00, da01, da02, da10, da11, da12⟩ (fun hS9 => ?_)
          refine wpAnyH_take (i := 5) (oi := ?oi113) (v := ?v113) ?hi113 (by kernel_rfl) ?hf113 ?hr113 ?hQ113 (Or.inl ⟨?hw113, ?hy113⟩) (by assumption) ?rest113
          case hi113 => simp only [List.getElem?_toArray, List.getElem?_cons_succ, List.getElem?_cons_zero]; rfl
          case hf113 => kernel_rfl
          case hr113 => kernel_rfl
          case hw113 => rfl
          case hy113 => (intro w hSw; (try dsimp only at hSw); go_simp; all_goals (first | done | with_reducible rfl))
          case hQ113 => exact fun _ _ _ h => h
          simp only [Act.put, List.setIfInBounds_toArray, List.set_cons_zero, List.set_cons_succ]
          refine wpAnyH_take (i := 6) (oi := ?oi114) (v := ?v114) ?hi114 (by kernel_rfl) ?hf114 ?hr114 ?hQ114 (Or.inl ⟨?hw114, ?hy114⟩) (by assumption) ?rest114
          case hi114 => simp only [List.getElem?_toArray, List.getElem?_cons_succ, List.getElem?_cons_zero]; rfl
          case hf114 => kernel_rfl
          case hr114 => kernel_rfl
          case hw114 => rfl
          case hy114 => (intro w hSw; (try dsimp only at hSw); go_simp; all_goals (first | done | with_reducible rfl))
          case hQ114 => exact fun _ _ _ h => h
          simp only [Act.put, List.setIfInBounds_toArray, List.set_cons_zero, List.set_cons_succ]
          refine wpAnyH_take (i := 7) (oi := ?oi115) (v := ?v115) ?hi115 (by kernel_rfl) ?hf115 ?hr115 ?hQ115 (Or.inl ⟨?hw115, ?hy115⟩) (by assumption) ?rest115
          case hi115 => simp only [List.getElem?_toArray, List.getElem?_cons_succ, List.getElem?_cons_zero]; rfl
          case hf115 => kernel_rfl
          case hr115 => kernel_rfl
          case hw115 => rfl
          case hy115 => (intro w hSw; (try dsimp only at hSw); go_simp; all_goals (first | done | with_reducible rfl))
          case hQ115 => exact fun _ _ _ h => h
          simp only [Act.put, List.setIfInBounds_toArray, List.set_cons_zero, List.set_cons_succ]
          replace HR := hid (HR.out.perm (List.perm_append_comm_assoc _ _ _))
          clear dbW00 dbW01 dbW02 tbW0 da10 da11 da12 ta1 da00 da01 da02 ta0
          have dbW00 := (Rows.bc (HR.out.left) 0 rfl).1
          have dbW01 := (Rows.bc (HR.out.left) 1 rfl).1
          have dbW02 := (Rows.bc (HR.out.left) 2 rfl).1
          have tbW0 := (Rows.bc (HR.out.left) 0 rfl).2
          have da10 := (Rows.bc (HR.out.right.right.right.right.left) 0 rfl).1
          have da11 := (Rows.bc (HR.out.right.right.right.right.left) 1 rfl).1
          have da12 := (Rows.bc (HR.out.right.right.right.right.left) 2 rfl).1
          have ta1 := (Rows.bc (HR.out.right.right.right.right.left) 0 rfl).2
          have da00 := (Rows.bc (HR.out.right.right.right.right.right) 0 rfl).1
          have da01 := (Rows.bc (HR.out.right.right.right.right.right) 1 rfl).1
          have da02 := (Rows.bc (HR.out.right.right.right.right.right) 2 rfl).1
          have ta0 := (Rows.bc (HR.out.right.right.right.right.right) 0 rfl).2
          have z0f : w7.frozen? ⟨w5.heap.size, 0, none⟩ = false := (Rows.bcell2 (T := 32) (d := 3) (cs := [.slice none 0 0, .slice none 0 0, .int .i64 0]) (pre := []) (q := 0) HR.out rfl).2.1
          have z1f : w7.frozen? ⟨w5.heap.size, 1, none⟩ = false := (Rows.bcell2 (T := 32) (d := 3) (cs := [.slice none 0 0, .slice none 0 0, .int .i64 0]) (pre := []) (q := 1) HR.out rfl).2.1
          have z2f : w7.frozen? ⟨w5.heap.size, 2, none⟩ = false := (Rows.bcell2 (T := 32) (d := 3) (cs := [.slice none 0 0, .slice none 0 0, .int .i64 0]) (pre := []) (q := 2) HR.out rfl).2.1
          refine wpAnyH_ready (rs := [9]) (by kernel_rfl) (by simp) ?_
          refine AllReadyH.cons (o := ?oi116) ?hi116 (fun K hK => ?step116) AllReadyH.nil
          case hi116 => simp only [List.getElem?_toArray, List.getElem?_cons_succ, List.getElem?_cons_zero]; rfl
          rw [if_pos (by rfl)]
          go_simp
          refine hK.out _ _ ⟨((World.cell?_setCell_far _ _ _ _ ne_a0).trans ((World.cell?_setCell_far _ _ _ _ ne_a0).trans ((World.cell?_setCell_far _ _ _ _ ne_a0).trans da00))), ((World.cell?_setCell_far _ _ _ _ ne_a0).trans ((World.cell?_setCell_far _ _ _ _ ne_a0).trans ((World.cell?_setCell_far _ _ _ _ ne_a0).trans da01))), ((World.cell?_setCell_far _ _ _ _ ne_a0).trans ((World.cell?_setCell_far _ _ _ _ ne_a0).trans ((World.cell?_setCell_far _ _ _ _ ne_a0).trans da02))), ((World.cell?_setCell_far _ _ _ _ ne_a1).trans ((World.cell?_setCell_far _ _ _ _ ne_a1).trans ((World.cell?_setCell_far _ _ _ _ ne_a1).trans da10))), ((World.cell?_setCell_far _ _ _ _ ne_a1).trans ((World.cell?_setCell_far _ _ _ _ ne_a1).trans ((World.cell?_setCell_far _ _ _ _ ne_a1).trans da11))), ((World.cell?_setCell_far _ _ _ _ ne_a1).trans ((World.cell?_setCell_far _ _ _ _ ne_a1).trans ((World.cell?_setCell_far _ _ _ _ ne_a1).trans da12)))⟩ (fun hS9 => ?_)
          refine wpAnyH_take (i := 10) (oi := ?oi117) (v := ?v117) ?hi117 (by kernel_rfl) ?hf117 ?hr117 ?hQ117 (Or.inl ⟨?hw117, ?hy117⟩) (by assumption) ?rest117
          case hi117 => simp only [List.getElem?_toArray, List.getElem?_cons_succ, List.getElem?_cons_zero]; rfl
          case hf117 => kernel_rfl
          case hr117 => kernel_rfl
          case hw117 => rfl
          case hy117 => (intro w hSw; (try dsimp only at hSw); go_simp; all_goals (first | done | with_reducible rfl))
          case hQ117 => exact fun _ _ _ h => h
          simp only [Act.put, List.setIfInBounds_toArray, List.set_cons_zero, List.set_cons_succ]
          refine wpAnyH_done (by kernel_rfl) ?_ _
          replace HR := hid (Rows.boxset (T := 32) (d := 3) (cs := [.slice none 0 0, .slice none 0 0, .int .i64 0]) (pre := []) (j := 0) (u := .slice fW00 fW01 fW02) HR.out)
          replace HR := hid (Rows.boxset (T := 32) (d := 3) (cs := [.slice fW00 fW01 fW02, .slice none 0 0, .int .i64 0]) (pre := []) (j := 1) (u := .slice fW03 fW04 fW05) HR.out)
          replace HR := hid (Rows.boxset (T := 32) (d := 3) (cs := [.slice fW00 fW01 fW02, .slice fW03 fW04 fW05, .int .i64 0]) (pre := []) (j := 2) (u := .int .i64 X0.2.2) HR.out)
          replace HB := hid (((HB.out.setCell (p := ⟨_, 0, none⟩) nle (.slice fW00 fW01 fW02)).setCell (p := ⟨_, 1, none⟩) nle (.slice fW03 fW04 fW05)).setCell (p := ⟨_, 2, none⟩) nle (.int .i64 X0.2.2))
          go_wp2_with fail
          go_meet
          case rel => exact ⟨_, _, _, _, _, _, _, _, _, _, _, _, rfl, rfl, SW0.out, Ss1.out, Ss0.out, HR.out, HB.out⟩
      · have ne_a0 : w4.heap.size ≠ w.heap.size := Nat.ne_of_gt ta0
        have ne_a1 : w4.heap.size ≠ w.heap.size + 1 := Nat.ne_of_gt ta1
        have nle : w.heap.size ≤ w4.heap.size := HB.out.size
        have hb : Below w4.heap.size w4 (w4.alloc (.cells #[.slice none 0 0, .slice none 0 0, .int .i64 0] 32)) := (Below.refl _ _).alloc (Nat.le_refl _) _
        have hr := Rows.box w4 #[.slice none 0 0, .slice none 0 0, .int .i64 0] 32 3 rfl
        replace HR := hid (HR.out.newer hb hr HB.out.size)
        replace HB := hid (HB.out.trans (hb.mono HB.out.size))
        clear hb hr
        clear da10 da11 da12 ta1 da00 da01 da02 ta0
        have dbW00 := (Rows.bc (HR.out.left) 0 rfl).1
        have dbW01 := (Rows.bc (HR.out.left) 1 rfl).1
        have dbW02 := (Rows.bc (HR.out.left) 2 rfl).1
        have tbW0 := (Rows.bc (HR.out.left) 0 rfl).2
        have da10 := (Rows.bc (HR.out.right.right.left) 0 rfl).1
        have da11 := (Rows.bc (HR.out.right.right.left) 1 rfl).1
        have da12 := (Rows.bc (HR.out.right.right.left) 2 rfl).1
        have ta1 := (Rows.bc (HR.out.right.right.left) 0 rfl).2
        have da00 := (Rows.bc (HR.out.right.right.right) 0 rfl).1
        have da01 := (Rows.bc (HR.out.right.right.right) 1 rfl).1
        have da02 := (Rows.bc (HR.out.right.right.right) 2 rfl).1
        have ta0 := (Rows.bc (HR.out.right.right.right) 0 rfl).2
        refine hK.out _ _ ⟨da00, da01, da02, da10, da11, da12⟩ (fun hS9 => ?_)
        clear dbW00 dbW01 dbW02 tbW0 da10 da11 da12 ta1 da00 da01 da02 ta0
        generalize (w4.alloc (.cells #[.slice none 0 0, .slice none 0 0, .int .i64 0] 32)) = w5 at *
        have dbW00 := (Rows.bc (HR.out.left) 0 rfl).1
        have dbW01 := (Rows.bc (HR.out.left) 1 rfl).1
        have dbW02 := (Rows.bc (HR.out.left) 2 rfl).1
        have tbW0 := (Rows.bc (HR.out.left) 0 rfl).2
        have da10 := (Rows.bc (HR.out.right.right.left) 0 rfl).1
        have da11 := (Rows.bc (HR.out.right.right.left) 1 rfl).1
        have da12 := (Rows.bc (HR.out.right.right.left) 2 rfl).1
        have ta1 := (Rows.bc (HR.out.right.right.left) 0 rfl).2
        have da00 := (Rows.bc (HR.out.right.right.right) 0 rfl).1
        have da01 := (Rows.bc (HR.out.right.right.right) 1 rfl).1
        have da02 := (Rows.bc (HR.out.right.right.right) 2 rfl).1
        have ta0 := (Rows.bc (HR.out.right.right.right) 0 rfl).2
        refine wpAnyH_ready (rs := [3]) (by kernel_rfl) (by simp) ?_
        refine AllReadyH.cons (o := ?oi118) ?hi118 (fun K hK => ?step118) AllReadyH.nil
        case hi118 => simp only [List.getElem?_toArray, List.getElem?_cons_succ, List.getElem?_cons_zero]; rfl
        rw [if_pos (by rfl)]
        go_simp
        go_at_call 24
        refine (toHandlerY_c A1 n1 c1 d1 w.heap.size _ (T1.out.below HB.out (Nat.le_refl _)) HB.out.size F1.out).mono ?_
        rintro e w6 ⟨v, rss1, rfl, hs, hr, hb⟩
        obtain ⟨fs10, fs11, fs12, rfl⟩ := hs.form hr
        have Ss1 := hid hs
        clear hs
        replace HR := hid (HR.out.newer hb hr HB.out.size)
        replace HB := hid (HB.out.trans (hb.mono HB.out.size))
        clear hb hr
        clear dbW00 dbW01 dbW02 tbW0 da10 da11 da12 ta1 da00 da01 da02 ta0
        have dbW00 := (Rows.bc (HR.out.right.left) 0 rfl).1
        have dbW01 := (Rows.bc (HR.out.right.left) 1 rfl).1
        have dbW02 := (Rows.bc (HR.out.right.left) 2 rfl).1
        have tbW0 := (Rows.bc (HR.out.right.left) 0 rfl).2
        have da10 := (Rows.bc (HR.out.right.right.right.left) 0 rfl).1
        have da11 := (Rows.bc (HR.out.right.right.right.left) 1 rfl).1
        have da12 := (Rows.bc (HR.out.right.right.right.left) 2 rfl).1
        have ta1 := (Rows.bc (HR.out.right.right.right.left) 0 rfl).2
        have da00 := (Rows.bc (HR.out.right.right.right.right) 0 rfl).1
        have da01 := (Rows.bc (HR.out.right.right.right.right) 1 rfl).1
        have da02 := (Rows.bc (HR.out.right.right.right.right) 2 rfl).1
        have ta0 := (Rows.bc (HR.out.right.right.right.right) 0 rfl).2
        refine hK.out _ _ ⟨da00, da01, da02, da10, da11, da12⟩ (fun hS9 => ?_)
        refine wpAnyH_ready (rs := [4]) (by kernel_rfl) (by simp) ?_
        refine AllReadyH.cons (o := ?oi119) ?hi119 (fun K hK => ?step119) AllReadyH.nil
        case hi119 => simp only [List.getElem?_toArray, List.getElem?_cons_succ, List.getElem?_cons_zero]; rfl
        rw [if_pos (by rfl)]
        go_simp
        go_at_call 23
        refine (cS.out _ _ (Ss0.out.at_ (HR.out.right.right.left) F0.out) _ (Ss1.out.at_ (HR.out.left) F1.out)).mono ?_
        rintro e w7 ⟨v0, rsW0, rfl, hs0, hr, hb⟩
        obtain ⟨fW00, fW01, fW02, fW03, fW04, fW05, rfl⟩ := hs0.form hr
        have SW0 := hid hs0
        clear hs0
        replace HR := hid (HR.out.newer hb hr HB.out.size)
        replace HB := hid (HB.out.trans (hb.mono HB.out.size))
        clear hb hr
        clear dbW00 dbW01 dbW02 tbW0 da10 da11 da12 ta1 da00 da01 da02 ta0
        have dbW00 := (Rows.bc (HR.out.right.right.left) 0 rfl).1
        have dbW01 := (Rows.bc (HR.out.right.right.left) 1 rfl).1
        have dbW02 := (Rows.bc (HR.out.right.right.left) 2 rfl).1
        have tbW0 := (Rows.bc (HR.out.right.right.left) 0 rfl).2
        have da10 := (Rows.bc (HR.out.right.right.right.right.left) 0 rfl).1
        have da11 := (Rows.bc (HR.out.right.right.right.right.left) 1 rfl).1
        have da12 := (Rows.bc (HR.out.right.right.right.right.left) 2 rfl).1
        have ta1 := (Rows.bc (HR.out.right.right.right.right.left) 0 rfl).2
        have da00 := (Rows.bc (HR.out.right.right.right.right.right) 0 rfl).1
        have da01 := (Rows.bc (HR.out.right.right.right.right.right) 1 rfl).1
        have da02 := (Rows.bc (HR.out.right.right.right.right.right) 2 rfl).1
        have ta0 := (Rows.bc (HR.out.right.right.right.right.right) 0 rfl).2
        refine hK.out _ _ ⟨da00, da01, da02, da10, da11, da12⟩ (fun hS9 => ?_)
        refine wpAnyH_take (i := 5) (oi := ?oi120) (v := ?v120) ?hi120 (by kernel_rfl) ?hf120 ?hr120 ?hQ120 (Or.inl ⟨?hw120, ?hy120⟩) (by assumption) ?rest120
        case hi120 => simp only [List.getElem?_toArray, List.getElem?_cons_succ, List.getElem?_cons_zero]; rfl
        case hf120 => kernel_rfl
        case hr120 => kernel_rfl
        case hw120 => rfl
        case hy120 => (intro w hSw; (try dsimp only at hSw); go_simp; all_goals (first | done | with_reducible rfl))
        case hQ120 => exact fun _ _ _ h => h
        simp only [Act.put, List.setIfInBounds_toArray, List.set_cons_zero, List.set_cons_succ]
        refine wpAnyH_take (i := 6) (oi := ?oi121) (v := ?v121) ?hi121 (by kernel_rfl) ?hf121 ?hr121 ?hQ121 (Or.inl ⟨?hw121, ?hy121⟩) (by assumption) ?rest121
        case hi121 => simp only [List.getElem?_toArray, List.getElem?_cons_succ, List.getElem?_cons_zero]; rfl
        case hf121 => kernel_rfl
        case hr121 => kernel_rfl
        case hw121 => rfl
        case hy121 => (intro w hSw; (try dsimp only at hSw); go_simp; all_goals (first | done | with_reducible rfl))
        case hQ121 => exact fun _ _ _ h => h
        simp only [Act.put, List.setIfInBounds_toArray, List.set_cons_zero, List.set_cons_succ]
        refine wpAnyH_take (i := 7) (oi := ?oi122) (v := ?v122) ?hi122 (by kernel_rfl) ?hf122 ?hr122 ?hQ122 (Or.inl ⟨?hw122, ?hy122⟩) (by assumption) ?rest122
        case hi122 => simp only [List.getElem?_toArray, List.getElem?_cons_succ, List.getElem?_cons_zero]; rfl
        case hf122 => kernel_rfl
        case hr122 => kernel_rfl
        case hw122 => rfl
        case hy122 => (intro w hSw; (try dsimp only at hSw); go_simp; all_goals (first | done | with_reducible rfl))
        case hQ122 => exact fun _ _ _ h => h
        simp only [Act.put, List.setIfInBounds_toArray, List.set_cons_zero, List.set_cons_succ]
        replace HR := hid (HR.out.perm (((List.perm_append_comm_assoc _ _ _).append_left _).trans (List.perm_append_comm_assoc _ _ _)))
        clear dbW00 dbW01 dbW02 tbW0 da10 da11 da12 ta1 da00 da01 da02 ta0
        have dbW00 := (Rows.bc (HR.out.left) 0 rfl).1
        have dbW01 := (Rows.bc (HR.out.left) 1 rfl).1
        have dbW02 := (Rows.bc (HR.out.left) 2 rfl).1
        have tbW0 := (Rows.bc (HR.out.left) 0 rfl).2
        have da10 := (Rows.bc (HR.out.right.right.right.right.left) 0 rfl).1
        have da11 := (Rows.bc (HR.out.right.right.right.right.left) 1 rfl).1
        have da12 := (Rows.bc (HR.out.right.right.right.right.left) 2 rfl).1
        have ta1 := (Rows.bc (HR.out.right.right.right.right.left) 0 rfl).2
        have da00 := (Rows.bc (HR.out.right.right.right.right.right) 0 rfl).1
        have da01 := (Rows.bc (HR.out.right.right.right.right.right) 1 rfl).1
        have da02 := (Rows.bc (HR.out.right.right.right.right.right) 2 rfl).1
        have ta0 := (Rows.bc (HR.out.right.right.right.right.right) 0 rfl).2
        have z0f : w7.frozen? ⟨w4.heap.size, 0, none⟩ = false := (Rows.bcell2 (T := 32) (d := 3) (cs := [.slice none 0 0, .slice none 0 0, .int .i64 0]) (pre := []) (q := 0) HR.out rfl).2.1
        have z1f : w7.frozen? ⟨w4.heap.size, 1, none⟩ = false := (Rows.bcell2 (T := 32) (d := 3) (cs := [.slice none 0 0, .slice none 0 0, .int .i64 0]) (pre := []) (q := 1) HR.out rfl).2.1
        have z2f : w7.frozen? ⟨w4.heap.size, 2, none⟩ = false := (Rows.bcell2 (T := 32) (d := 3) (cs := [.slice none 0 0, .slice none 0 0, .int .i64 0]) (pre := []) (q := 2) HR.out rfl).2.1
        refine wpAnyH_ready (rs := [9]) (by kernel_rfl) (by simp) ?_
        refine AllReadyH.cons (o := ?oi123) ?hi123 (fun K hK => ?step123) AllReadyH.nil
        case hi123 => simp only [List.getElem?_toArray, List.getElem?_cons_succ, List.getElem?_cons_zero]; rfl
        rw [if_pos (by rfl)]
        go_simp
        refine hK.out _ _ ⟨((World.cell?_setCell_far _ _ _ _ ne_a0).trans ((World.cell?_setCell_far _ _ _ _ ne_a0).trans ((World.cell?_setCell_far _ _ _ _ ne_a0).trans da00))), ((World.cell?_setCell_far _ _ _ _ ne_a0).trans ((World.cell?_setCell_far _ _ _ _ ne_a0).trans ((World.cell?_setCell_far _ _ _ _ ne_a0).trans da01))), ((World.cell?_setCell_far _ _ _ _ ne_a0).trans ((World.cell?_setCell_far _ _ _ _ ne_a0).trans ((World.cell?_setCell_far _ _ _ _ ne_a0).trans da02))), ((World.cell?_setCell_far _ _ _ _ ne_a1).trans ((World.cell?_setCell_far _ _ _ _ ne_a1).trans ((World.cell?_setCell_far _ _ _ _ ne_a1).trans da10))), ((World.cell?_setCell_far _ _ _ _ ne_a1).trans ((World.cell?_setCell_far _ _ _ _ ne_a1).trans ((World.cell?_setCell_far _ _ _ _ ne_a1).trans da11))), ((World.cell?_setCell_far _ _ _ _ ne_a1).trans ((World.cell?_setCell_far _ _ _ _ ne_a1).trans ((World.cell?_setCell_far _ _ _ _ ne_a1).trans da12)))⟩ (fun hS9 => ?_)
        refine wpAnyH_take (i := 10) (oi := ?oi124) (v := ?v124) ?hi124 (by kernel_rfl) ?hf124 ?hr124 ?hQ124 (Or.inl ⟨?hw124, ?hy124⟩) (by assumption) ?rest124
        case hi124 => simp only [List.getElem?_toArray, List.getElem?_cons_succ, List.getElem?_cons_zero]; rfl
        case hf124 => kernel_rfl
        case hr124 => kernel_rfl
        case hw124 => rfl
        case hy124 => (intro w hSw; (try dsimp only at hSw); go_simp; all_goals (first | done | with_reducible rfl))
        case hQ124 => exact fun _ _ _ h => h
        simp only [Act.put, List.setIfInBounds_toArray, List.set_cons_zero, List.set_cons_succ]
        refine wpAnyH_done (by kernel_rfl) ?_ _
        replace HR := hid (Rows.boxset (T := 32) (d := 3) (cs := [.slice none 0 0, .slice none 0 0, .int .i64 0]) (pre := []) (j := 0) (u := .slice fW00 fW01 fW02) HR.out)
        replace HR := hid (Rows.boxset (T := 32) (d := 3) (cs := [.slice fW00 fW01 fW02, .slice none 0 0, .int .i64 0]) (pre := []) (j := 1) (u := .slice fW03 fW04 fW05) HR.out)
        replace HR := hid (Rows.boxset (T := 32) (d := 3) (cs := [.slice fW00 fW01 fW02, .slice fW03 fW04 fW05, .int .i64 0]) (pre := []) (j := 2) (u := .int .i64 X0.2.2) HR.out)
        replace HB := hid (((HB.out.setCell (p := ⟨_, 0, none⟩) nle (.slice fW00 fW01 fW02)).setCell (p := ⟨_, 1, none⟩) nle (.slice fW03 fW04 fW05)).setCell (p := ⟨_, 2, none⟩) nle (.int .i64 X0.2.2))
        go_wp2_with fail
        go_meet
        case rel => exact ⟨_, _, _, _, _, _, _, _, _, _, _, _, rfl, rfl, SW0.out, Ss1.out, Ss0.out, HR.out, HB.out⟩
    · have ne_a0 : w3.heap.size ≠ w.heap.size := Nat.ne_of_gt ta0
      have ne_a1 : w3.heap.size ≠ w.heap.size + 1 := Nat.ne_of_gt ta1
      have nle : w.heap.size ≤ w3.heap.size := HB.out.size
      have hb : Below w3.heap.size w3 (w3.alloc (.cells #[.slice none 0 0, .slice none 0 0, .int .i64 0] 32)) := (Below.refl _ _).alloc (Nat.le_refl _) _
      have hr := Rows.box w3 #[.slice none 0 0, .slice none 0 0, .int .i64 0] 32 3 rfl
      replace HR := hid (HR.out.newer hb hr HB.out.size)
      replace HB := hid (HB.out.trans (hb.mono HB.out.size))
      clear hb hr
      clear da10 da11 da12 ta1 da00 da01 da02 ta0
      have dbW00 := (Rows.bc (HR.out.left) 0 rfl).1
      have dbW01 := (Rows.bc (HR.out.left) 1 rfl).1
      have dbW02 := (Rows.bc (HR.out.left) 2 rfl).1
      have tbW0 := (Rows.bc (HR.out.left) 0 rfl).2
      have da10 := (Rows.bc (HR.out.right.left) 0 rfl).1
      have da11 := (Rows.bc (HR.out.right.left) 1 rfl).1
      have da12 := (Rows.bc (HR.out.right.left) 2 rfl).1
      have ta1 := (Rows.bc (HR.out.right.left) 0 rfl).2
      have da00 := (Rows.bc (HR.out.right.right) 0 rfl).1
      have da01 := (Rows.bc (HR.out.right.right) 1 rfl).1
      have da02 := (Rows.bc (HR.out.right.right) 2 rfl).1
      have ta0 := (Rows.bc (HR.out.right.right) 0 rfl).2
      refine hK.out _ _ ⟨da00, da01, da02, da10, da11, da12⟩ (fun hS9 => ?_)
      clear dbW00 dbW01 dbW02 tbW0 da10 da11 da12 ta1 da00 da01 da02 ta0
      generalize (w3.alloc (.cells #[.slice none 0 0, .slice none 0 0, .int .i64 0] 32)) = w4 at *
      have dbW00 := (Rows.bc (HR.out.left) 0 rfl).1
      have dbW01 := (Rows.bc (HR.out.left) 1 rfl).1
      have dbW02 := (Rows.bc (HR.out.left) 2 rfl).1
      have tbW0 := (Rows.bc (HR.out.left) 0 rfl).2
      have da10 := (Rows.bc (HR.out.right.left) 0 rfl).1
      have da11 := (Rows.bc (HR.out.right.left) 1 rfl).1
      have da12 := (Rows.bc (HR.out.right.left) 2 rfl).1
      have ta1 := (Rows.bc (HR.out.right.left) 0 rfl).2
      have da00 := (Rows.bc (HR.out.right.right) 0 rfl).1
      have da01 := (Rows.bc (HR.out.right.right) 1 rfl).1
      have da02 := (Rows.bc (HR.out.right.right) 2 rfl).1
      have ta0 := (Rows.bc (HR.out.right.right) 0 rfl).2
      refine wpAnyH_ready (rs := [1]) (by kernel_rfl) (by simp) ?_
      refine AllReadyH.cons (o := ?oi125) ?hi125 (fun K hK => ?step125) AllReadyH.nil
      case hi125 => simp only [List.getElem?_toArray, List.getElem?_cons_succ, List.getElem?_cons_zero]; rfl
      rw [if_pos (by rfl)]
      go_simp
      go_at_call 13
      refine (toTreY_c Aa0 na0 ca0 Ab0 nb0 cb0 d0 w.heap.size _ (T0.out.below HB.out (Nat.le_refl _)) HB.out.size F0.out).mono ?_
      rintro e w5 ⟨v, rss0, rfl, hs, hr, hb⟩
      obtain ⟨fs00, fs01, fs02, fs03, fs04, fs05, rfl⟩ := hs.form hr
      have Ss0 := hid hs
      clear hs
      replace HR := hid (HR.out.newer hb hr HB.out.size)
      replace HB := hid (HB.out.trans (hb.mono HB.out.size))
      clear hb hr
      clear dbW00 dbW01 dbW02 tbW0 da10 da11 da12 ta1 da00 da01 da02 ta0
      have dbW00 := (Rows.bc (HR.out.right.left) 0 rfl).1
      have dbW01 := (Rows.bc (HR.out.right.left) 1 rfl).1
      have dbW02 := (Rows.bc (HR.out.right.left) 2 rfl).1
      have tbW0 := (Rows.bc (HR.out.right.left) 0 rfl).2
      have da10 := (Rows.bc (HR.out.right.right.left) 0 rfl).1
      have da11 := (Rows.bc (HR.out.right.right.left) 1 rfl).1
      have da12 := (Rows.bc (HR.out.right.right.left) 2 rfl).1
      have ta1 := (Rows.bc (HR.out.right.right.left) 0 rfl).2
      have da00 := (Rows.bc (HR.out.right.right.right) 0 rfl).1
      have da01 := (Rows.bc (HR.out.right.right.right) 1 rfl).1
      have da02 := (Rows.bc (HR.out.right.right.right) 2 rfl).1
      have ta0 := (Rows.bc (HR.out.right.right.right) 0 rfl).2
      refine hK.out _ _ ⟨da00, da01, da02, da10, da11, da12⟩ (fun hS9 => ?_)
      refine wpAnyH_ready (rs := [3]) (by kernel_rfl) (by simp) ?_
      refine AllReadyH.cons (o := ?oi126) ?hi126 (fun K hK => ?step126) AllReadyH.nil
      case hi126 => simp only [List.getElem?_toArray, List.getElem?_cons_succ, List.getElem?_cons_zero]; rfl
      rw [if_pos (by rfl)]
      go_simp
      go_at_call 24
      refine (toHandlerY_c A1 n1 c1 d1 w.heap.size _ (T1.out.below HB.out (Nat.le_refl _)) HB.out.size F1.out).mono ?_
      rintro e w6 ⟨v, rss1, rfl, hs, hr, hb⟩
      obtain ⟨fs10, fs11, fs12, rfl⟩ := hs.form hr
      have Ss1 := hid hs
      clear hs
      replace HR := hid (HR.out.newer hb hr HB.out.size)
      replace HB := hid (HB.out.trans (hb.mono HB.out.size))
      clear hb hr
      clear dbW00 dbW01 dbW02 tbW0 da10 da11 da12 ta1 da00 da01 da02 ta0
      have dbW00 := (Rows.bc (HR.out.right.right.left) 0 rfl).1
      have dbW01 := (Rows.bc (HR.out.right.right.left) 1 rfl).1
      have dbW02 := (Rows.bc (HR.out.right.right.left) 2 rfl).1
      have tbW0 := (Rows.bc (HR.out.right.right.left) 0 rfl).2
      have da10 := (Rows.bc (HR.out.right.right.right.left) 0 rfl).1
      have da11 := (Rows.bc (HR.out.right.right.right.left) 1 rfl).1
      have da12 := (Rows.bc (HR.out.right.right.right.left) 2 rfl).1
      have ta1 := (Rows.bc (HR.out.right.right.right.left) 0 rfl).2
      have da00 := (Rows.bc (HR.out.right.right.right.right) 0 rfl).1
      have da01 := (Rows.bc (HR.out.right.right.right.right) 1 rfl).1
      have da02 := (Rows.bc (HR.out.right.right.right.right) 2 rfl).1
      have ta0 := (Rows.bc (HR.out.right.right.right.right) 0 rfl).2
      refine hK.out _ _ ⟨da00, da01, da02, da10, da11, da12⟩ (fun hS9 => ?_)
      refine wpAnyH_ready (rs := [4]) (by kernel_rfl) (by simp) ?_
      refine AllReadyH.cons (o := ?oi127) ?hi127 (fun K hK => ?step127) AllReadyH.nil
      case hi127 => simp only [List.getElem?_toArray, List.getElem?_cons_succ, List.getElem?_cons_zero]; rfl
      rw [if_pos (by rfl)]
      go_simp
      go_at_call 23
      refine (cS.out _ _ (Ss0.out.at_ (HR.out.right.left) F0.out) _ (Ss1.out.at_ (HR.out.left) F1.out)).mono ?_
      rintro e w7 ⟨v0, rsW0, rfl, hs0, hr, hb⟩
      obtain ⟨fW00, fW01, fW02, fW03, fW04, fW05, rfl⟩ := hs0.form hr
      have SW0 := hid hs0
      clear hs0
      replace HR := hid (HR.out.newer hb hr HB.out.size)
      replace HB := hid (HB.out.trans (hb.mono HB.out.size))
      clear hb hr
      clear dbW00 dbW01 dbW02 tbW0 da10 da11 da12 ta1 da00 da01 da02 ta0
      have dbW00 := (Rows.bc (HR.out.right.right.right.left) 0 rfl).1
      have dbW01 := (Rows.bc (HR.out.right.right.right.left) 1 rfl).1
      have dbW02 := (Rows.bc (HR.out.right.right.right.left) 2 rfl).1
      have tbW0 := (Rows.bc (HR.out.right.right.right.left) 0 rfl).2
      have da10 := (Rows.bc (HR.out.right.right.right.right.left) 0 rfl).1
      have da11 := (Rows.bc (HR.out.right.right.right.right.left) 1 rfl).1
      have da12 := (Rows.bc (HR.out.right.right.right.right.left) 2 rfl).1
      have ta1 := (Rows.bc (HR.out.right.right.right.right.left) 0 rfl).2
      have da00 := (Rows.bc (HR.out.right.right.right.right.right) 0 rfl).1
      have da01 := (Rows.bc (HR.out.right.right.right.right.right) 1 rfl).1
      have da02 := (Rows.bc (HR.out.right.right.right.right.right) 2 rfl).1
      have ta0 := (Rows.bc (HR.out.right.right.right.right.right) 0 rfl).2
      refine hK.out _ _ ⟨da00, da01, da02, da10, da11, da12⟩ (fun hS9 => ?_)
      refine wpAnyH_take (i := 5) (oi := ?oi128) (v := ?v128) ?hi128 (by kernel_rfl) ?hf128 ?hr128 ?hQ128 (Or.inl ⟨?hw128, ?hy128⟩) (by assumption) ?rest128
      case hi128 => simp only [List.getElem?_toArray, List.getElem?_cons_succ, List.getElem?_cons_zero]; rfl
      case hf128 => kernel_rfl
      case hr128 => kernel_rfl
      case hw128 => rfl
      case hy128 => (intro w hSw; (try dsimp only at hSw); go_simp; all_goals (first | done | with_reducible rfl))
      case hQ128 => exact fun _ _ _ h => h
      simp only [Act.put, List.setIfInBounds_toArray, List.set_cons_zero, List.set_cons_succ]
      refine wpAnyH_take (i := 6) (oi := ?oi129) (v := ?v129) ?hi129 (by kernel_rfl) ?hf129 ?hr129 ?hQ129 (Or.inl ⟨?hw129, ?hy129⟩) (by assumption) ?rest129
      case hi129 => simp only [List.getElem?_toArray, List.getElem?_cons_succ, List.getElem?_cons_zero]; rfl
      case hf129 => kernel_rfl
      case hr129 => kernel_rfl
      case hw129 => rfl
      case hy129 => (intro w hSw; (try dsimp only at hSw); go_simp; all_goals (first | done | with_reducible rfl))
      case hQ129 => exact fun _ _ _ h => h
      simp only [Act.put, List.setIfInBounds_toArray, List.set_cons_zero, List.set_cons_succ]
      refine wpAnyH_take (i := 7) (oi := ?oi130) (v := ?v130) ?hi130 (by kernel_rfl) ?hf130 ?hr130 ?hQ130 (Or.inl ⟨?hw130, ?hy130⟩) (by assumption) ?rest130
      case hi130 => simp only [List.getElem?_toArray, List.getElem?_cons_succ, List.getElem?_cons_zero]; rfl
      case hf130 => kernel_rfl
      case hr130 => kernel_rfl
      case hw130 => rfl
      case hy130 => (intro w hSw; (try dsimp only at hSw); go_simp; all_goals (first | done | with_reducible rfl))
      case hQ130 => exact fun _ _ _ h => h
      simp only [Act.put, List.setIfInBounds_toArray, List.set_cons_zero, List.set_cons_succ]
      replace HR := hid (HR.out.perm (((((List.perm_append_comm_assoc _ _ _).append_left _).trans (List.perm_append_comm_assoc _ _ _)).append_left _).trans (List.perm_append_comm_assoc _ _ _)))
      clear dbW00 dbW01 dbW02 tbW0 da10 da11 da12 ta1 da00 da01 da02 ta0
      have dbW00 := (Rows.bc (HR.out.left) 0 rfl).1
      have dbW01 := (Rows.bc (HR.out.left) 1 rfl).1
      have dbW02 := (Rows.bc (HR.out.left) 2 rfl).1
      have tbW0 := (Rows.bc (HR.out.left) 0 rfl).2
      have da10 := (Rows.bc (HR.out.right.right.right.right.left) 0 rfl).1
      have da11 := (Rows.bc (HR.out.right.right.right.right.left) 1 rfl).1
      have da12 := (Rows.bc (HR.out.right.right.right.right.left) 2 rfl).1
      have ta1 := (Rows.bc (HR.out.right.right.right.right.left) 0 rfl).2
      have da00 := (Rows.bc (HR.out.right.right.right.right.right) 0 rfl).1
      have da01 := (Rows.bc (HR.out.right.right.right.right.right) 1 rfl).1
      have da02 := (Rows.bc (HR.out.right.right.right.right.right) 2 rfl).1
      have ta0 := (Rows.bc (HR.out.right.right.right.right.right) 0 rfl).2
      have z0f : w7.frozen? ⟨w3.heap.size, 0, none⟩ = false := (Rows.bcell2 (T := 32) (d := 3) (cs := [.slice none 0 0, .slice none 0 0, .int .i64 0]) (pre := []) (q := 0) HR.out rfl).2.1
      have z1f : w7.frozen? ⟨w3.heap.size, 1, none⟩ = false := (Rows.bcell2 (T := 32) (d := 3) (cs := [.slice none 0 0, .slice none 0 0, .int .i64 0]) (pre := []) (q := 1) HR.out rfl).2.1
      have z2f : w7.frozen? ⟨w3.heap.size, 2, none⟩ = false := (Rows.bcell2 (T := 32) (d := 3) (cs := [.slice none 0 0, .slice none 0 0, .int .i64 0]) (pre := []) (q := 2) HR.out rfl).2.1
      refine wpAnyH_ready (rs := [9]) (by kernel_rfl) (by simp) ?_
      refine AllReadyH.cons (o := ?oi131) ?hi131 (fun K hK => ?step131) AllReadyH.nil
      case hi131 => simp only [List.getElem?_toArray, List.getElem?_cons_succ, List.getElem?_cons_zero]; rfl
      rw [if_pos (by rfl)]
      go_simp
      refine hK.out _ _ ⟨((World.cell?_setCell_far _ _ _ _ ne_a0).trans ((World.cell?_setCell_far _ _ _ _ ne_a0).trans ((World.cell?_setCell_far _ _ _ _ ne_a0).trans da00))), ((World.cell?_setCell_far _ _ _ _ ne_a0).trans ((World.cell?_setCell_far _ _ _ _ ne_a0).trans ((World.cell?_setCell_far _ _ _ _ ne_a0).trans da01))), ((World.cell?_setCell_far _ _ _ _ ne_a0).trans ((World.cell?_setCell_far _ _ _ _ ne_a0).trans ((World.cell?_setCell_far _ _ _ _ ne_a0).trans da02))), ((World.cell?_setCell_far _ _ _ _ ne_a1).trans ((World.cell?_setCell_far _ _ _ _ ne_a1).trans ((World.cell?_setCell_far _ _ _ _ ne_a1).trans da10))), ((World.cell?_setCell_far _ _ _ _ ne_a1).trans ((World.cell?_setCell_far _ _ _ _ ne_a1).trans ((World.cell?_setCell_far _ _ _ _ ne_a1).trans da11))), ((World.cell?_setCell_far _ _ _ _ ne_a1).trans ((World.cell?_setCell_far _ _ _ _ ne_a1).trans ((World.cell?_setCell_far _ _ _ _ ne_a1).trans da12)))⟩ (fun hS9 => ?_)
      refine wpAnyH_take (i := 10) (oi := ?oi132) (v := ?v132) ?hi132 (by kernel_rfl) ?hf132 ?hr132 ?hQ132 (Or.inl ⟨?hw132, ?hy132⟩) (by assumption) ?rest132
      case hi132 => simp only [List.getElem?_toArray, List.getElem?_cons_succ, List.getElem?_cons_zero]; rfl
      case hf132 => kernel_rfl
      case hr132 => kernel_rfl
      case hw132 => rfl
      case hy132 => (intro w hSw; (try dsimp only at hSw); go_simp; all_goals (first | done | with_reducible rfl))
      case hQ132 => exact fun _ _ _ h => h
      simp only [Act.put, List.setIfInBounds_toArray, List.set_cons_zero, List.set_cons_succ]
      refine wpAnyH_done (by kernel_rfl) ?_ _
      replace HR := hid (Rows.boxset (T := 32) (d := 3) (cs := [.slice none 0 0, .slice none 0 0, .int .i64 0]) (pre := []) (j := 0) (u := .slice fW00 fW01 fW02) HR.out)
      replace HR := hid (Rows.boxset (T := 32) (d := 3) (cs := [.slice fW00 fW01 fW02, .slice none 0 0, .int .i64 0]) (pre := []) (j := 1) (u := .slice fW03 fW04 fW05) HR.out)
      replace HR := hid (Rows.boxset (T := 32) (d := 3) (cs := [.slice fW00 fW01 fW02, .slice fW03 fW04 fW05, .int .i64 0]) (pre := []) (j := 2) (u := .int .i64 X0.2.2) HR.out)
      replace HB := hid (((HB.out.setCell (p := ⟨_, 0, none⟩) nle (.slice fW00 fW01 fW02)).setCell (p := ⟨_, 1, none⟩) nle (.slice fW03 fW04 fW05)).setCell (p := ⟨_, 2, none⟩) nle (.int .i64 X0.2.2))
      go_wp2_with fail
      go_meet
      case rel => exact ⟨_, _, _, _, _, _, _, _, _, _, _, _, rfl, rfl, SW0.out, Ss1.out, Ss0.out, HR.out, HB.out⟩
  case rest =>
    clear HR HB da10 da11 da12 ta1 da00 da01 da02 ta0
    obtain ⟨bbW, fW00, fW01, fW02, fW03, fW04, fW05, rsW0, rss1, vs1, rss0, vs0, rfl, rfl, hsW0, hss1, hss0, hr, hb⟩ := hcut
    rename World => w50
    have HR := hid hr
    have HB := hid hb
    clear hr hb
    have SW0 := hid hsW0
    clear hsW0
    have Ss1 := hid hss1
    clear hss1
    have Ss0 := hid hss0
    clear hss0
    have dbW00 := (Rows.bc (HR.out.left) 0 rfl).1
    have dbW01 := (Rows.bc (HR.out.left) 1 rfl).1
    have dbW02 := (Rows.bc (HR.out.left) 2 rfl).1
    have tbW0 := (Rows.bc (HR.out.left) 0 rfl).2
    have da10 := (Rows.bc (HR.out.right.right.right.right.left) 0 rfl).1
    have da11 := (Rows.bc (HR.out.right.right.right.right.left) 1 rfl).1
    have da12 := (Rows.bc (HR.out.right.right.right.right.left) 2 rfl).1
    have ta1 := (Rows.bc (HR.out.right.right.right.right.left) 0 rfl).2
    have da00 := (Rows.bc (HR.out.right.right.right.right.right) 0 rfl).1
    have da01 := (Rows.bc (HR.out.right.right.right.right.right) 1 rfl).1
    have da02 := (Rows.bc (HR.out.right.right.right.right.right) 2 rfl).1
    have ta0 := (Rows.bc (HR.out.right.right.right.right.right) 0 rfl).2
    replace HR := hid (HR.out.sub ((List.Sublist.refl _).append ((List.Sublist.refl _).append ((List.Sublist.refl _).append (List.sublist_append_right _ _)))))
    clear Ss0
    replace HR := hid (HR.out.sub ((List.Sublist.refl _).append ((List.Sublist.refl _).append (List.sublist_append_right _ _))))
    clear Ss1
    go_wp2_with fail
    refine (toTreY_c Aa0 na0 ca0 Ab0 nb0 cb0 d0 w.heap.size _ (T0.out.below HB.out (Nat.le_refl _)) HB.out.size F0.out).mono ?_
    rintro e w51 ⟨v, rsx0, rfl, hs, hr, hb⟩
    obtain ⟨fx00, fx01, fx02, fx03, fx04, fx05, rfl⟩ := hs.form hr
    have Sx0 := hid hs
    clear hs
    replace HR := hid (HR.out.newer hb hr HB.out.size)
    replace HB := hid (HB.out.trans (hb.mono HB.out.size))
    clear hb hr
    clear dbW00 dbW01 dbW02 tbW0 da10 da11 da12 ta1 da00 da01 da02 ta0
    have dbW00 := (Rows.bc (HR.out.right.left) 0 rfl).1
    have dbW01 := (Rows.bc (HR.out.right.left) 1 rfl).1
    have dbW02 := (Rows.bc (HR.out.right.left) 2 rfl).1
    have tbW0 := (Rows.bc (HR.out.right.left) 0 rfl).2
    have da10 := (Rows.bc (HR.out.right.right.right.left) 0 rfl).1
    have da11 := (Rows.bc (HR.out.right.right.right.left) 1 rfl).1
    have da12 := (Rows.bc (HR.out.right.right.right.left) 2 rfl).1
    have ta1 := (Rows.bc (HR.out.right.right.right.left) 0 rfl).2
    have da00 := (Rows.bc (HR.out.right.right.right.right) 0 rfl).1
    have da01 := (Rows.bc (HR.out.right.right.right.right) 1 rfl).1
    have da02 := (Rows.bc (HR.out.right.right.right.right) 2 rfl).1
    have ta0 := (Rows.bc (HR.out.right.right.right.right) 0 rfl).2
    have hb : Below w51.heap.size w51 (w51.alloc (.cells #[.slice fx00 fx01 fx02, .slice fx03 fx04 fx05, .int .i64 d0.2.2] 32)) := (Below.refl _ _).alloc (Nat.le_refl _) _
    have hr := Rows.box w51 #[.slice fx00 fx01 fx02, .slice fx03 fx04 fx05, .int .i64 d0.2.2] 32 3 rfl
    replace HR := hid (HR.out.newer hb hr HB.out.size)
    replace HB := hid (HB.out.trans (hb.mono HB.out.size))
    clear hb hr
    clear dbW00 dbW01 dbW02 tbW0 da10 da11 da12 ta1 da00 da01 da02 ta0
    have dbx00 := (Rows.bc (HR.out.left) 0 rfl).1
    have dbx01 := (Rows.bc (HR.out.left) 1 rfl).1
    have dbx02 := (Rows.bc (HR.out.left) 2 rfl).1
    have tbx0 := (Rows.bc (HR.out.left) 0 rfl).2
    have dbW00 := (Rows.bc (HR.out.right.right.left) 0 rfl).1
    have dbW01 := (Rows.bc (HR.out.right.right.left) 1 rfl).1
    have dbW02 := (Rows.bc (HR.out.right.right.left) 2 rfl).1
    have tbW0 := (Rows.bc (HR.out.right.right.left) 0 rfl).2
    have da10 := (Rows.bc (HR.out.right.right.right.right.left) 0 rfl).1
    have da11 := (Rows.bc (HR.out.right.right.right.right.left) 1 rfl).1
    have da12 := (Rows.bc (HR.out.right.right.right.right.left) 2 rfl).1
    have ta1 := (Rows.bc (HR.out.right.right.right.right.left) 0 rfl).2
    have da00 := (Rows.bc (HR.out.right.right.right.right.right) 0 rfl).1
    have da01 := (Rows.bc (HR.out.right.right.right.right.right) 1 rfl).1
    have da02 := (Rows.bc (HR.out.right.right.right.right.right) 2 rfl).1
    have ta0 := (Rows.bc (HR.out.right.right.right.right.right) 0 rfl).2
    go_wp2_with fail
    refine (toHandlerY_c A1 n1 c1 d1 w.heap.size _ (T1.out.below HB.out (Nat.le_refl _)) HB.out.size F1.out).mono ?_
    rintro e w52 ⟨v, rsx1, rfl, hs, hr, hb⟩
    obtain ⟨fx10, fx11, fx12, rfl⟩ := hs.form hr
    have Sx1 := hid hs
    clear hs
    replace HR := hid (HR.out.newer hb hr HB.out.size)
    replace HB := hid (HB.out.trans (hb.mono HB.out.size))
    clear hb hr
    clear dbx00 dbx01 dbx02 tbx0 dbW00 dbW01 dbW02 tbW0 da10 da11 da12 ta1 da00 da01 da02 ta0
    have dbx00 := (Rows.bc (HR.out.right.left) 0 rfl).1
    have dbx01 := (Rows.bc (HR.out.right.left) 1 rfl).1
    have dbx02 := (Rows.bc (HR.out.right.left) 2 rfl).1
    have tbx0 := (Rows.bc (HR.out.right.left) 0 rfl).2
    have dbW00 := (Rows.bc (HR.out.right.right.right.left) 0 rfl).1
    have dbW01 := (Rows.bc (HR.out.right.right.right.left) 1 rfl).1
    have dbW02 := (Rows.bc (HR.out.right.right.right.left) 2 rfl).1
    have tbW0 := (Rows.bc (HR.out.right.right.right.left) 0 rfl).2
    have da10 := (Rows.bc (HR.out.right.right.right.right.right.left) 0 rfl).1
    have da11 := (Rows.bc (HR.out.right.right.right.right.right.left) 1 rfl).1
    have da12 := (Rows.bc (HR.out.right.right.right.right.right.left) 2 rfl).1
    have ta1 := (Rows.bc (HR.out.right.right.right.right.right.left) 0 rfl).2
    have da00 := (Rows.bc (HR.out.right.right.right.right.right.right) 0 rfl).1
    have da01 := (Rows.bc (HR.out.right.right.right.right.right.right) 1 rfl).1
    have da02 := (Rows.bc (HR.out.right.right.right.right.right.right) 2 rfl).1
    have ta0 := (Rows.bc (HR.out.right.right.right.right.right.right) 0 rfl).2
    have hb : Below w52.heap.size w52 (w52.alloc (.cells #[.string ⟨d1.nm.toArray⟩, .int .i64 d1.lv, .slice fx10 fx11 fx12] 49)) := (Below.refl _ _).alloc (Nat.le_refl _) _
    have hr := Rows.box w52 #[.string ⟨d1.nm.toArray⟩, .int .i64 d1.lv, .slice fx10 fx11 fx12] 49 3 rfl
    replace HR := hid (HR.out.newer hb hr HB.out.size)
    replace HB := hid (HB.out.trans (hb.mono HB.out.size))
    clear hb hr
    clear dbx00 dbx01 dbx02 tbx0 dbW00 dbW01 dbW02 tbW0 da10 da11 da12 ta1 da00 da01 da02 ta0
    have dbx10 := (Rows.bc (HR.out.left) 0 rfl).1
    have dbx11 := (Rows.bc (HR.out.left) 1 rfl).1
    have dbx12 := (Rows.bc (HR.out.left) 2 rfl).1
    have tbx1 := (Rows.bc (HR.out.left) 0 rfl).2
    have dbx00 := (Rows.bc (HR.out.right.right.left) 0 rfl).1
    have dbx01 := (Rows.bc (HR.out.right.right.left) 1 rfl).1
    have dbx02 := (Rows.bc (HR.out.right.right.left) 2 rfl).1
    have tbx0 := (Rows.bc (HR.out.right.right.left) 0 rfl).2
    have dbW00 := (Rows.bc (HR.out.right.right.right.right.left) 0 rfl).1
    have dbW01 := (Rows.bc (HR.out.right.right.right.right.left) 1 rfl).1
    have dbW02 := (Rows.bc (HR.out.right.right.right.right.left) 2 rfl).1
    have tbW0 := (Rows.bc (HR.out.right.right.right.right.left) 0 rfl).2
    have da10 := (Rows.bc (HR.out.right.right.right.right.right.right.left) 0 rfl).1
    have da11 := (Rows.bc (HR.out.right.right.right.right.right.right.left) 1 rfl).1
    have da12 := (Rows.bc (HR.out.right.right.right.right.right.right.left) 2 rfl).1
    have ta1 := (Rows.bc (HR.out.right.right.right.right.right.right.left) 0 rfl).2
    have da00 := (Rows.bc (HR.out.right.right.right.right.right.right.right) 0 rfl).1
    have da01 := (Rows.bc (HR.out.right.right.right.right.right.right.right) 1 rfl).1
    have da02 := (Rows.bc (HR.out.right.right.right.right.right.right.right) 2 rfl).1
    have ta0 := (Rows.bc (HR.out.right.right.right.right.right.right.right) 0 rfl).2
    go_wp2_with fail
    refine (cI.out _ _ (Sx0.out.at_ (HR.out.right.right.right.left) F0.out) _ (Sx1.out.at_ (HR.out.right.left) F1.out)).mono ?_
    rintro e w53 ⟨v0, rsG0, rfl, hs0, hr, hb⟩
    obtain ⟨fG00, fG01, fG02, fG03, fG04, fG05, rfl⟩ := hs0.form hr
    have SG0 := hid hs0
    clear hs0
    replace HR := hid (HR.out.newer hb hr HB.out.size)
    replace HB := hid (HB.out.trans (hb.mono HB.out.size))
    clear hb hr
    clear dbx10 dbx11 dbx12 tbx1 dbx00 dbx01 dbx02 tbx0 dbW00 dbW01 dbW02 tbW0 da10 da11 da12 ta1 da00 da01 da02 ta0
    have dbx10 := (Rows.bc (HR.out.right.left) 0 rfl).1
    have dbx11 := (Rows.bc (HR.out.right.left) 1 rfl).1
    have dbx12 := (Rows.bc (HR.out.right.left) 2 rfl).1
    have tbx1 := (Rows.bc (HR.out.right.left) 0 rfl).2
    have dbx00 := (Rows.bc (HR.out.right.right.right.left) 0 rfl).1
    have dbx01 := (Rows.bc (HR.out.right.right.right.left) 1 rfl).1
    have dbx02 := (Rows.bc (HR.out.right.right.right.left) 2 rfl).1
    have tbx0 := (Rows.bc (HR.out.right.right.right.left) 0 rfl).2
    have dbW00 := (Rows.bc (HR.out.right.right.right.right.right.left) 0 rfl).1
    have dbW01 := (Rows.bc (HR.out.right.right.right.right.right.left) 1 rfl).1
    have dbW02 := (Rows.bc (HR.out.right.right.right.right.right.left) 2 rfl).1
    have tbW0 := (Rows.bc (HR.out.right.right.right.right.right.left) 0 rfl).2
    have da10 := (Rows.bc (HR.out.right.right.right.right.right.right.right.left) 0 rfl).1
    have da11 := (Rows.bc (HR.out.right.right.right.right.right.right.right.left) 1 rfl).1
    have da12 := (Rows.bc (HR.out.right.right.right.right.right.right.right.left) 2 rfl).1
    have ta1 := (Rows.bc (HR.out.right.right.right.right.right.right.right.left) 0 rfl).2
    have da00 := (Rows.bc (HR.out.right.right.right.right.right.right.right.right) 0 rfl).1
    have da01 := (Rows.bc (HR.out.right.right.right.right.right.right.right.right) 1 rfl).1
    have da02 := (Rows.bc (HR.out.right.right.right.right.right.right.right.right) 2 rfl).1
    have ta0 := (Rows.bc (HR.out.right.right.right.right.right.right.right.right) 0 rfl).2
    have hb : Below w53.heap.size w53 (w53.alloc (.cells #[.slice fG00 fG01 fG02, .slice fG03 fG04 fG05, .int .i64 X0.2.2] 32)) := (Below.refl _ _).alloc (Nat.le_refl _) _
    have hr := Rows.box w53 #[.slice fG00 fG01 fG02, .slice fG03 fG04 fG05, .int .i64 X0.2.2] 32 3 rfl
    replace HR := hid (HR.out.newer hb hr HB.out.size)
    replace HB := hid (HB.out.trans (hb.mono HB.out.size))
    clear hb hr
    clear dbx10 dbx11 dbx12 tbx1 dbx00 dbx01 dbx02 tbx0 dbW00 dbW01 dbW02 tbW0 da10 da11 da12 ta1 da00 da01 da02 ta0
    have dbG00 := (Rows.bc (HR.out.left) 0 rfl).1
    have dbG01 := (Rows.bc (HR.out.left) 1 rfl).1
    have dbG02 := (Rows.bc (HR.out.left) 2 rfl).1
    have tbG0 := (Rows.bc (HR.out.left) 0 rfl).2
    have dbx10 := (Rows.bc (HR.out.right.right.left) 0 rfl).1
    have dbx11 := (Rows.bc (HR.out.right.right.left) 1 rfl).1
    have dbx12 := (Rows.bc (HR.out.right.right.left) 2 rfl).1
    have tbx1 := (Rows.bc (HR.out.right.right.left) 0 rfl).2
    have dbx00 := (Rows.bc (HR.out.right.right.right.right.left) 0 rfl).1
    have dbx01 := (Rows.bc (HR.out.right.right.right.right.left) 1 rfl).1
    have dbx02 := (Rows.bc (HR.out.right.right.right.right.left) 2 rfl).1
    have tbx0 := (Rows.bc (HR.out.right.right.right.right.left) 0 rfl).2
    have dbW00 := (Rows.bc (HR.out.right.right.right.right.right.right.left) 0 rfl).1
    have dbW01 := (Rows.bc (HR.out.right.right.right.right.right.right.left) 1 rfl).1
    have dbW02 := (Rows.bc (HR.out.right.right.right.right.right.right.left) 2 rfl).1
    have tbW0 := (Rows.bc (HR.out.right.right.right.right.right.right.left) 0 rfl).2
    have da10 := (Rows.bc (HR.out.right.right.right.right.right.right.right.right.left) 0 rfl).1
    have da11 := (Rows.bc (HR.out.right.right.right.right.right.right.right.right.left) 1 rfl).1
    have da12 := (Rows.bc (HR.out.right.right.right.right.right.right.right.right.left) 2 rfl).1
    have ta1 := (Rows.bc (HR.out.right.right.right.right.right.right.right.right.left) 0 rfl).2
    have da00 := (Rows.bc (HR.out.right.right.right.right.right.right.right.right.right) 0 rfl).1
    have da01 := (Rows.bc (HR.out.right.right.right.right.right.right.right.right.right) 1 rfl).1
    have da02 := (Rows.bc (HR.out.right.right.right.right.right.right.right.right.right) 2 rfl).1
    have ta0 := (Rows.bc (HR.out.right.right.right.right.right.right.right.right.right) 0 rfl).2
    go_wp2_with fail
    refine (eqTreX_c SG0.out (HR.out.right.left) SW0.out (HR.out.right.right.right.right.right.right.right.left) DX0.out).mono ?_
    rintro e w54 ⟨rfl, hb⟩
    replace HR := hid (HR.out.below hb)
    replace HB := hid (HB.out.trans (hb.mono HB.out.size))
    clear hb
    clear dbG00 dbG01 dbG02 tbG0 dbx10 dbx11 dbx12 tbx1 dbx00 dbx01 dbx02 tbx0 dbW00 dbW01 dbW02 tbW0 da10 da11 da12 ta1 da00 da01 da02 ta0
    have dbG00 := (Rows.bc (HR.out.left) 0 rfl).1
    have dbG01 := (Rows.bc (HR.out.left) 1 rfl).1
    have dbG02 := (Rows.bc (HR.out.left) 2 rfl).1
    have tbG0 := (Rows.bc (HR.out.left) 0 rfl).2
    have dbx10 := (Rows.bc (HR.out.right.right.left) 0 rfl).1
    have dbx11 := (Rows.bc (HR.out.right.right.left) 1 rfl).1
    have dbx12 := (Rows.bc (HR.out.right.right.left) 2 rfl).1
    have tbx1 := (Rows.bc (HR.out.right.right.left) 0 rfl).2
    have dbx00 := (Rows.bc (HR.out.right.right.right.right.left) 0 rfl).1
    have dbx01 := (Rows.bc (HR.out.right.right.right.right.left) 1 rfl).1
    have dbx02 := (Rows.bc (HR.out.right.right.right.right.left) 2 rfl).1
    have tbx0 := (Rows.bc (HR.out.right.right.right.right.left) 0 rfl).2
    have dbW00 := (Rows.bc (HR.out.right.right.right.right.right.right.left) 0 rfl).1
    have dbW01 := (Rows.bc (HR.out.right.right.right.right.right.right.left) 1 rfl).1
    have dbW02 := (Rows.bc (HR.out.right.right.right.right.right.right.left) 2 rfl).1
    have tbW0 := (Rows.bc (HR.out.right.right.right.right.right.right.left) 0 rfl).2
    have da10 := (Rows.bc (HR.out.right.right.right.right.right.right.right.right.left) 0 rfl).1
    have da11 := (Rows.bc (HR.out.right.right.right.right.right.right.right.right.left) 1 rfl).1
    have da12 := (Rows.bc (HR.out.right.right.right.right.right.right.right.right.left) 2 rfl).1
    have ta1 := (Rows.bc (HR.out.right.right.right.right.right.right.right.right.left) 0 rfl).2
    have da00 := (Rows.bc (HR.out.right.right.right.right.right.right.right.right.right) 0 rfl).1
    have da01 := (Rows.bc (HR.out.right.right.right.right.right.right.right.right.right) 1 rfl).1
    have da02 := (Rows.bc (HR.out.right.right.right.right.right.right.right.right.right) 2 rfl).1
    have ta0 := (Rows.bc (HR.out.right.right.right.right.right.right.right.right.right) 0 rfl).2
    go_wp2_with fail
    refine wp_region_held_drew (S := (fun w' : World => w'.cell? ⟨w51.heap.size, 0, none⟩ = some (.slice fx00 fx01 fx02) ∧ w'.cell? ⟨w51.heap.size, 1, none⟩ = some (.slice fx03 fx04 fx05) ∧ w'.cell? ⟨w51.heap.size, 2, none⟩ = some (.int .i64 d0.2.2) ∧ w'.cell? ⟨w.heap.size, 0, none⟩ = some (.slice Aa0 na0 ca0) ∧ w'.cell? ⟨w.heap.size, 1, none⟩ = some (.slice Ab0 nb0 cb0) ∧ w'.cell? ⟨w.heap.size, 2, none⟩ = some (.int .i64 d0.2.2))) (by kernel_rfl) ⟨dbx00, dbx01, dbx02, da00, da01, da02⟩ (fun hS => ?_)
    refine wpAnyH_take (i := 0) (oi := ?oi133) (v := ?v133) ?hi133 (by kernel_rfl) ?hf133 ?hr133 ?hQ133 (Or.inl ⟨?hw133, ?hy133⟩) (by assumption) ?rest133
    case hi133 => simp only [List.getElem?_toArray, List.getElem?_cons_succ, List.getElem?_cons_zero]; rfl
    case hf133 => kernel_rfl
    case hr133 => kernel_rfl
    case hw133 => rfl
    case hy133 => (intro w hSw; (try dsimp only at hSw); go_simp; all_goals (first | done | with_reducible rfl))
    case hQ133 => exact fun _ _ _ h => h
    simp only [Act.put, List.setIfInBounds_toArray, List.set_cons_zero, List.set_cons_succ]
    refine wpAnyH_take (i := 1) (oi := ?oi134) (v := ?v134) ?hi134 (by kernel_rfl) ?hf134 ?hr134 ?hQ134 (Or.inl ⟨?hw134, ?hy134⟩) (by assumption) ?rest134
    case hi134 => simp only [List.getElem?_toArray, List.getElem?_cons_succ, List.getElem?_cons_zero]; rfl
    case hf134 => kernel_rfl
    case hr134 => kernel_rfl
    case hw134 => rfl
    case hy134 => (intro w hSw; (try dsimp only at hSw); go_simp; all_goals (first | done | with_reducible rfl))
    case hQ134 => exact fun _ _ _ h => h
    simp only [Act.put, List.setIfInBounds_toArray, List.set_cons_zero, List.set_cons_succ]
    replace HR := hid (HR.out.below ((Below.refl w54.heap.size w54).drew))
    replace HB := hid HB.out.drew
    clear dbG00 dbG01 dbG02 tbG0 dbx10 dbx11 dbx12 tbx1 dbx00 dbx01 dbx02 tbx0 dbW00 dbW01 dbW02 tbW0 da10 da11 da12 ta1 da00 da01 da02 ta0
    have dbG00 := (Rows.bc (HR.out.left) 0 rfl).1
    have dbG01 := (Rows.bc (HR.out.left) 1 rfl).1
    have dbG02 := (Rows.bc (HR.out.left) 2 rfl).1
    have tbG0 := (Rows.bc (HR.out.left) 0 rfl).2
    have dbx10 := (Rows.bc (HR.out.right.right.left) 0 rfl).1
    have dbx11 := (Rows.bc (HR.out.right.right.left) 1 rfl).1
    have dbx12 := (Rows.bc (HR.out.right.right.left) 2 rfl).1
    have tbx1 := (Rows.bc (HR.out.right.right.left) 0 rfl).2
    have dbx00 := (Rows.bc (HR.out.right.right.right.right.left) 0 rfl).1
    have dbx01 := (Rows.bc (HR.out.right.right.right.right.left) 1 rfl).1
    have dbx02 := (Rows.bc (HR.out.right.right.right.right.left) 2 rfl).1
    have tbx0 := (Rows.bc (HR.out.right.right.right.right.left) 0 rfl).2
    have dbW00 := (Rows.bc (HR.out.right.right.right.right.right.right.left) 0 rfl).1
    have dbW01 := (Rows.bc (HR.out.right.right.right.right.right.right.left) 1 rfl).1
    have dbW02 := (Rows.bc (HR.out.right.right.right.right.right.right.left) 2 rfl).1
    have tbW0 := (Rows.bc (HR.out.right.right.right.right.right.right.left) 0 rfl).2
    have da10 := (Rows.bc (HR.out.right.right.right.right.right.right.right.right.left) 0 rfl).1
    have da11 := (Rows.bc (HR.out.right.right.right.right.right.right.right.right.left) 1 rfl).1
    have da12 := (Rows.bc (HR.out.right.right.right.right.right.right.right.right.left) 2 rfl).1
    have ta1 := (Rows.bc (HR.out.right.right.right.right.right.right.right.right.left) 0 rfl).2
    have da00 := (Rows.bc (HR.out.right.right.right.right.right.right.right.right.right) 0 rfl).1
    have da01 := (Rows.bc (HR.out.right.right.right.right.right.right.right.right.right) 1 rfl).1
    have da02 := (Rows.bc (HR.out.right.right.right.right.right.right.right.right.right) 2 rfl).1
    have ta0 := (Rows.bc (HR.out.right.right.right.right.right.right.right.right.right) 0 rfl).2
    refine wpAnyH_ready (rs := [2]) (by kernel_rfl) (by simp) ?_
    refine AllReadyH.cons (o := ?oi135) ?hi135 (fun K hK => ?step135) AllReadyH.nil
    case hi135 => simp only [List.getElem?_toArray, List.getElem?_cons_succ, List.getElem?_cons_zero]; rfl
    rw [if_pos (by rfl)]
    go_simp
    go_at_call 13
    refine (toTreY_c Aa0 na0 ca0 Ab0 nb0 cb0 d0 w.heap.size _ (T0.out.below HB.out (Nat.le_refl _)) HB.out.size F0.out).mono ?_
    rintro e w55 ⟨v, rsy0, rfl, hs, hr, hb⟩
    obtain ⟨fy00, fy01, fy02, fy03, fy04, fy05, rfl⟩ := hs.form hr
    have Sy0 := hid hs
    clear hs
    replace HR := hid (HR.out.newer hb hr HB.out.size)
    replace HB := hid (HB.out.trans (hb.mono HB.out.size))
    clear hb hr
    clear dbG00 dbG01 dbG02 tbG0 dbx10 dbx11 dbx12 tbx1 dbx00 dbx01 dbx02 tbx0 dbW00 dbW01 dbW02 tbW0 da10 da11 da12 ta1 da00 da01 da02 ta0
    have dbG00 := (Rows.bc (HR.out.right.left) 0 rfl).1
    have dbG01 := (Rows.bc (HR.out.right.left) 1 rfl).1
    have dbG02 := (Rows.bc (HR.out.right.left) 2 rfl).1
    have tbG0 := (Rows.bc (HR.out.right.left) 0 rfl).2
    have dbx10 := (Rows.bc (HR.out.right.right.right.left) 0 rfl).1
    have dbx11 := (Rows.bc (HR.out.right.right.right.left) 1 rfl).1
    have dbx12 := (Rows.bc (HR.out.right.right.right.left) 2 rfl).1
    have tbx1 := (Rows.bc (HR.out.right.right.right.left) 0 rfl).2
    have dbx00 := (Rows.bc (HR.out.right.right.right.right.right.left) 0 rfl).1
    have dbx01 := (Rows.bc (HR.out.right.right.right.right.right.left) 1 rfl).1
    have dbx02 := (Rows.bc (HR.out.right.right.right.right.right.left) 2 rfl).1
    have tbx0 := (Rows.bc (HR.out.right.right.right.right.right.left) 0 rfl).2
    have dbW00 := (Rows.bc (HR.out.right.right.right.right.right.right.right.left) 0 rfl).1
    have dbW01 := (Rows.bc (HR.out.right.right.right.right.right.right.right.left) 1 rfl).1
    have dbW02 := (Rows.bc (HR.out.right.right.right.right.right.right.right.left) 2 rfl).1
    have tbW0 := (Rows.bc (HR.out.right.right.right.right.right.right.right.left) 0 rfl).2
    have da10 := (Rows.bc (HR.out.right.right.right.right.right.right.right.right.right.left) 0 rfl).1
    have da11 := (Rows.bc (HR.out.right.right.right.right.right.right.right.right.right.left) 1 rfl).1
    have da12 := (Rows.bc (HR.out.right.right.right.right.right.right.right.right.right.left) 2 rfl).1
    have ta1 := (Rows.bc (HR.out.right.right.right.right.right.right.right.right.right.left) 0 rfl).2
    have da00 := (Rows.bc (HR.out.right.right.right.right.right.right.right.right.right.right) 0 rfl).1
    have da01 := (Rows.bc (HR.out.right.right.right.right.right.right.right.right.right.right) 1 rfl).1
    have da02 := (Rows.bc (HR.out.right.right.right.right.right.right.right.right.right.right) 2 rfl).1
    have ta0 := (Rows.bc (HR.out.right.right.right.right.right.right.right.right.right.right) 0 rfl).2
    refine hK.out _ _ ⟨dbx00, dbx01, dbx02, da00, da01, da02⟩ (fun hS9 => ?_)
    refine wpAnyH_ready (rs := [3]) (by kernel_rfl) (by simp) ?_
    refine AllReadyH.cons (o := ?oi136) ?hi136 (fun K hK => ?step136) AllReadyH.nil
    case hi136 => simp only [List.getElem?_toArray, List.getElem?_cons_succ, List.getElem?_cons_zero]; rfl
    rw [if_pos (by rfl)]
    go_simp
    go_at_call 16
    refine (eqTreX_c Sx0.out (HR.out.right.right.right.right.right.right.left) Sy0.out (HR.out.left) F0.out).mono ?_
    rintro e w56 ⟨rfl, hb⟩
    replace HR := hid (HR.out.below hb)
    replace HB := hid (HB.out.trans (hb.mono HB.out.size))
    clear hb
    clear dbG00 dbG01 dbG02 tbG0 dbx10 dbx11 dbx12 tbx1 dbx00 dbx01 dbx02 tbx0 dbW00 dbW01 dbW02 tbW0 da10 da11 da12 ta1 da00 da01 da02 ta0
    have dbG00 := (Rows.bc (HR.out.right.left) 0 rfl).1
    have dbG01 := (Rows.bc (HR.out.right.left) 1 rfl).1
    have dbG02 := (Rows.bc (HR.out.right.left) 2 rfl).1
    have tbG0 := (Rows.bc (HR.out.right.left) 0 rfl).2
    have dbx10 := (Rows.bc (HR.out.right.right.right.left) 0 rfl).1
    have dbx11 := (Rows.bc (HR.out.right.right.right.left) 1 rfl).1
    have dbx12 := (Rows.bc (HR.out.right.right.right.left) 2 rfl).1
    have tbx1 := (Rows.bc (HR.out.right.right.right.left) 0 rfl).2
    have dbx00 := (Rows.bc (HR.out.right.right.right.right.right.left) 0 rfl).1
    have dbx01 := (Rows.bc (HR.out.right.right.right.right.right.left) 1 rfl).1
    have dbx02 := (Rows.bc (HR.out.right.right.right.right.right.left) 2 rfl).1
    have tbx0 := (Rows.bc (HR.out.right.right.right.right.right.left) 0 rfl).2
    have dbW00 := (Rows.bc (HR.out.right.right.right.right.right.right.right.left) 0 rfl).1
    have dbW01 := (Rows.bc (HR.out.right.right.right.right.right.right.right.left) 1 rfl).1
    have dbW02 := (Rows.bc (HR.out.right.right.right.right.right.right.right.left) 2 rfl).1
    have tbW0 := (Rows.bc (HR.out.right.right.right.right.right.right.right.left) 0 rfl).2
    have da10 := (Rows.bc (HR.out.right.right.right.right.right.right.right.right.right.left) 0 rfl).1
    have da11 := (Rows.bc (HR.out.right.right.right.right.right.right.right.right.right.left) 1 rfl).1
    have da12 := (Rows.bc (HR.out.right.right.right.right.right.right.right.right.right.left) 2 rfl).1
    have ta1 := (Rows.bc (HR.out.right.right.right.right.right.right.right.right.right.left) 0 rfl).2
    have da00 := (Rows.bc (HR.out.right.right.right.right.right.right.right.right.right.right) 0 rfl).1
    have da01 := (Rows.bc (HR.out.right.right.right.right.right.right.right.right.right.right) 1 rfl).1
    have da02 := (Rows.bc (HR.out.right.right.right.right.right.right.right.right.right.right) 2 rfl).1
    have ta0 := (Rows.bc (HR.out.right.right.right.right.right.right.right.right.right.right) 0 rfl).2
    refine hK.out _ _ ⟨dbx00, dbx01, dbx02, da00, da01, da02⟩ (fun hS9 => ?_)
    refine wpAnyH_take (i := 4) (oi := ?oi137) (v := ?v137) ?hi137 (by kernel_rfl) ?hf137 ?hr137 ?hQ137 (Or.inl ⟨?hw137, ?hy137⟩) (by assumption) ?rest137
    case hi137 => simp only [List.getElem?_toArray, List.getElem?_cons_succ, List.getElem?_cons_zero]; rfl
    case hf137 => kernel_rfl
    case hr137 => kernel_rfl
    case hw137 => rfl
    case hy137 => (intro w hSw; (try dsimp only at hSw); go_simp; all_goals (first | done | with_reducible rfl))
    case hQ137 => exact fun _ _ _ h => h
    simp only [Act.put, List.setIfInBounds_toArray, List.set_cons_zero, List.set_cons_succ]
    refine wpAnyH_done (by kernel_rfl) ?_ _
    replace HR := hid (HR.out.sub (List.sublist_append_right _ _))
    clear Sy0
    clear dbG00 dbG01 dbG02 tbG0 dbx10 dbx11 dbx12 tbx1 dbx00 dbx01 dbx02 tbx0 dbW00 dbW01 dbW02 tbW0 da10 da11 da12 ta1 da00 da01 da02 ta0
    have dbG00 := (Rows.bc (HR.out.left) 0 rfl).1
    have dbG01 := (Rows.bc (HR.out.left) 1 rfl).1
    have dbG02 := (Rows.bc (HR.out.left) 2 rfl).1
    have tbG0 := (Rows.bc (HR.out.left) 0 rfl).2
    have dbx10 := (Rows.bc (HR.out.right.right.left) 0 rfl).1
    have dbx11 := (Rows.bc (HR.out.right.right.left) 1 rfl).1
    have dbx12 := (Rows.bc (HR.out.right.right.left) 2 rfl).1
    have tbx1 := (Rows.bc (HR.out.right.right.left) 0 rfl).2
    have dbx00 := (Rows.bc (HR.out.right.right.right.right.left) 0 rfl).1
    have dbx01 := (Rows.bc (HR.out.right.right.right.right.left) 1 rfl).1
    have dbx02 := (Rows.bc (HR.out.right.right.right.right.left) 2 rfl).1
    have tbx0 := (Rows.bc (HR.out.right.right.right.right.left) 0 rfl).2
    have dbW00 := (Rows.bc (HR.out.right.right.right.right.right.right.left) 0 rfl).1
    have dbW01 := (Rows.bc (HR.out.right.right.right.right.right.right.left) 1 rfl).1
    have dbW02 := (Rows.bc (HR.out.right.right.right.right.right.right.left) 2 rfl).1
    have tbW0 := (Rows.bc (HR.out.right.right.right.right.right.right.left) 0 rfl).2
    have da10 := (Rows.bc (HR.out.right.right.right.right.right.right.right.right.left) 0 rfl).1
    have da11 := (Rows.bc (HR.out.right.right.right.right.right.right.right.right.left) 1 rfl).1
    have da12 := (Rows.bc (HR.out.right.right.right.right.right.right.right.right.left) 2 rfl).1
    have ta1 := (Rows.bc (HR.out.right.right.right.right.right.right.right.right.left) 0 rfl).2
    have da00 := (Rows.bc (HR.out.right.right.right.right.right.right.right.right.right) 0 rfl).1
    have da01 := (Rows.bc (HR.out.right.right.right.right.right.right.right.right.right) 1 rfl).1
    have da02 := (Rows.bc (HR.out.right.right.right.right.right.right.right.right.right) 2 rfl).1
    have ta0 := (Rows.bc (HR.out.right.right.right.right.right.right.right.right.right) 0 rfl).2
    go_wp2_with fail
    refine wp_region_held_drew (S := (fun w' : World => w'.cell? ⟨w52.heap.size, 0, none⟩ = some (.string ⟨d1.nm.toArray⟩) ∧ w'.cell? ⟨w52.heap.size, 1, none⟩ = some (.int .i64 d1.lv) ∧ w'.cell? ⟨w52.heap.size, 2, none⟩ = some (.slice fx10 fx11 fx12) ∧ w'.cell? ⟨w.heap.size + 1, 0, none⟩ = some (.string ⟨d1.nm.toArray⟩) ∧ w'.cell? ⟨w.heap.size + 1, 1, none⟩ = some (.int .i64 d1.lv) ∧ w'.cell? ⟨w.heap.size + 1, 2, none⟩ = some (.slice A1 n1 c1))) (by kernel_rfl) ⟨dbx10, dbx11, dbx12, da10, da11, da12⟩ (fun hS => ?_)
    refine wpAnyH_take (i := 0) (oi := ?oi138) (v := ?v138) ?hi138 (by kernel_rfl) ?hf138 ?hr138 ?hQ138 (Or.inl ⟨?hw138, ?hy138⟩) (by assumption) ?rest138
    case hi138 => simp only [List.getElem?_toArray, List.getElem?_cons_succ, List.getElem?_cons_zero]; rfl
    case hf138 => kernel_rfl
    case hr138 => kernel_rfl
    case hw138 => rfl
    case hy138 => (intro w hSw; (try dsimp only at hSw); go_simp; all_goals (first | done | with_reducible rfl))
    case hQ138 => exact fun _ _ _ h => h
    simp only [Act.put, List.setIfInBounds_toArray, List.set_cons_zero, List.set_cons_succ]
    refine wpAnyH_take (i := 1) (oi := ?oi139) (v := ?v139) ?hi139 (by kernel_rfl) ?hf139 ?hr139 ?hQ139 (Or.inl ⟨?hw139, ?hy139⟩) (by assumption) ?rest139
    case hi139 => simp only [List.getElem?_toArray, List.getElem?_cons_succ, List.getElem?_cons_zero]; rfl
    case hf139 => kernel_rfl
    case hr139 => kernel_rfl
    case hw139 => rfl
    case hy139 => (intro w hSw; (try dsimp only at hSw); go_simp; all_goals (first | done | with_reducible rfl))
    case hQ139 => exact fun _ _ _ h => h
    simp only [Act.put, List.setIfInBounds_toArray, List.set_cons_zero, List.set_cons_succ]
    replace HR := hid (HR.out.below ((Below.refl w56.heap.size w56).drew))
    replace HB := hid HB.out.drew
    clear dbG00 dbG01 dbG02 tbG0 dbx10 dbx11 dbx12 tbx1 dbx00 dbx01 dbx02 tbx0 dbW00 dbW01 dbW02 tbW0 da10 da11 da12 ta1 da00 da01 da02 ta0
    have dbG00 := (Rows.bc (HR.out.left) 0 rfl).1
    have dbG01 := (Rows.bc (HR.out.left) 1 rfl).1
    have dbG02 := (Rows.bc (HR.out.left) 2 rfl).1
    have tbG0 := (Rows.bc (HR.out.left) 0 rfl).2
    have dbx10 := (Rows.bc (HR.out.right.right.left) 0 rfl).1
    have dbx11 := (Rows.bc (HR.out.right.right.left) 1 rfl).1
    have dbx12 := (Rows.bc (HR.out.right.right.left) 2 rfl).1
    have tbx1 := (Rows.bc (HR.out.right.right.left) 0 rfl).2
    have dbx00 := (Rows.bc (HR.out.right.right.right.right.left) 0 rfl).1
    have dbx01 := (Rows.bc (HR.out.right.right.right.right.left) 1 rfl).1
    have dbx02 := (Rows.bc (HR.out.right.right.right.right.left) 2 rfl).1
    have tbx0 := (Rows.bc (HR.out.right.right.right.right.left) 0 rfl).2
    have dbW00 := (Rows.bc (HR.out.right.right.right.right.right.right.left) 0 rfl).1
    have dbW01 := (Rows.bc (HR.out.right.right.right.right.right.right.left) 1 rfl).1
    have dbW02 := (Rows.bc (HR.out.right.right.right.right.right.right.left) 2 rfl).1
    have tbW0 := (Rows.bc (HR.out.right.right.right.right.right.right.left) 0 rfl).2
    have da10 := (Rows.bc (HR.out.right.right.right.right.right.right.right.right.left) 0 rfl).1
    have da11 := (Rows.bc (HR.out.right.right.right.right.right.right.right.right.left) 1 rfl).1
    have da12 := (Rows.bc (HR.out.right.right.right.right.right.right.right.right.left) 2 rfl).1
    have ta1 := (Rows.bc (HR.out.right.right.right.right.right.right.right.right.left) 0 rfl).2
    have da00 := (Rows.bc (HR.out.right.right.right.right.right.right.right.right.right) 0 rfl).1
    have da01 := (Rows.bc (HR.out.right.right.right.right.right.right.right.right.right) 1 rfl).1
    have da02 := (Rows.bc (HR.out.right.right.right.right.right.right.right.right.right) 2 rfl).1
    have ta0 := (Rows.bc (HR.out.right.right.right.right.right.right.right.right.right) 0 rfl).2
    refine wpAnyH_ready (rs := [2]) (by kernel_rfl) (by simp) ?_
    refine AllReadyH.cons (o := ?oi140) ?hi140 (fun K hK => ?step140) AllReadyH.nil
    case hi140 => simp only [List.getElem?_toArray, List.getElem?_cons_succ, List.getElem?_cons_zero]; rfl
    rw [if_pos (by rfl)]
    go_simp
    go_at_call 24
    refine (toHandlerY_c A1 n1 c1 d1 w.heap.size _ (T1.out.below HB.out (Nat.le_refl _)) HB.out.size F1.out).mono ?_
    rintro e w57 ⟨v, rsy1, rfl, hs, hr, hb⟩
    obtain ⟨fy10, fy11, fy12, rfl⟩ := hs.form hr
    have Sy1 := hid hs
    clear hs
    replace HR := hid (HR.out.newer hb hr HB.out.size)
    replace HB := hid (HB.out.trans (hb.mono HB.out.size))
    clear hb hr
    clear dbG00 dbG01 dbG02 tbG0 dbx10 dbx11 dbx12 tbx1 dbx00 dbx01 dbx02 tbx0 dbW00 dbW01 dbW02 tbW0 da10 da11 da12 ta1 da00 da01 da02 ta0
    have dbG00 := (Rows.bc (HR.out.right.left) 0 rfl).1
    have dbG01 := (Rows.bc (HR.out.right.left) 1 rfl).1
    have dbG02 := (Rows.bc (HR.out.right.left) 2 rfl).1
    have tbG0 := (Rows.bc (HR.out.right.left) 0 rfl).2
    have dbx10 := (Rows.bc (HR.out.right.right.right.left) 0 rfl).1
    have dbx11 := (Rows.bc (HR.out.right.right.right.left) 1 rfl).1
    have dbx12 := (Rows.bc (HR.out.right.right.right.left) 2 rfl).1
    have tbx1 := (Rows.bc (HR.out.right.right.right.left) 0 rfl).2
    have dbx00 := (Rows.bc (HR.out.right.right.right.right.right.left) 0 rfl).1
    have dbx01 := (Rows.bc (HR.out.right.right.right.right.right.left) 1 rfl).1
    have dbx02 := (Rows.bc (HR.out.right.right.right.right.right.left) 2 rfl).1
    have tbx0 := (Rows.bc (HR.out.right.right.right.right.right.left) 0 rfl).2
    have dbW00 := (Rows.bc (HR.out.right.right.right.right.right.right.right.left) 0 rfl).1
    have dbW01 := (Rows.bc (HR.out.right.right.right.right.right.right.right.left) 1 rfl).1
    have dbW02 := (Rows.bc (HR.out.right.right.right.right.right.right.right.left) 2 rfl).1
    have tbW0 := (Rows.bc (HR.out.right.right.right.right.right.right.right.left) 0 rfl).2
    have da10 := (Rows.bc (HR.out.right.right.right.right.right.right.right.right.right.left) 0 rfl).1
    have da11 := (Rows.bc (HR.out.right.right.right.right.right.right.right.right.right.left) 1 rfl).1
    have da12 := (Rows.bc (HR.out.right.right.right.right.right.right.right.right.right.left) 2 rfl).1
    have ta1 := (Rows.bc (HR.out.right.right.right.right.right.right.right.right.right.left) 0 rfl).2
    have da00 := (Rows.bc (HR.out.right.right.right.right.right.right.right.right.right.right) 0 rfl).1
    have da01 := (Rows.bc (HR.out.right.right.right.right.right.right.right.right.right.right) 1 rfl).1
    have da02 := (Rows.bc (HR.out.right.right.right.right.right.right.right.right.right.right) 2 rfl).1
    have ta0 := (Rows.bc (HR.out.right.right.right.right.right.right.right.right.right.right) 0 rfl).2
    refine hK.out _ _ ⟨dbx10, dbx11, dbx12, da10, da11, da12⟩ (fun hS9 => ?_)
    refine wpAnyH_ready (rs := [3]) (by kernel_rfl) (by simp) ?_
    refine AllReadyH.cons (o := ?oi141) ?hi141 (fun K hK => ?step141) AllReadyH.nil
    case hi141 => simp only [List.getElem?_toArray, List.getElem?_cons_succ, List.getElem?_cons_zero]; rfl
    rw [if_pos (by rfl)]
    go_simp
    go_at_call 26
    refine (eqHandlerX_c Sx1.out (HR.out.right.right.right.right.left) Sy1.out (HR.out.left)).mono ?_
    rintro e w58 ⟨rfl, hb⟩
    replace HR := hid (HR.out.below hb)
    replace HB := hid (HB.out.trans (hb.mono HB.out.size))
    clear hb
    clear dbG00 dbG01 dbG02 tbG0 dbx10 dbx11 dbx12 tbx1 dbx00 dbx01 dbx02 tbx0 dbW00 dbW01 dbW02 tbW0 da10 da11 da12 ta1 da00 da01 da02 ta0
    have dbG00 := (Rows.bc (HR.out.right.left) 0 rfl).1
    have dbG01 := (Rows.bc (HR.out.right.left) 1 rfl).1
    have dbG02 := (Rows.bc (HR.out.right.left) 2 rfl).1
    have tbG0 := (Rows.bc (HR.out.right.left) 0 rfl).2
    have dbx10 := (Rows.bc (HR.out.right.right.right.left) 0 rfl).1
    have dbx11 := (Rows.bc (HR.out.right.right.right.left) 1 rfl).1
    have dbx12 := (Rows.bc (HR.out.right.right.right.left) 2 rfl).1
    have tbx1 := (Rows.bc (HR.out.right.right.right.left) 0 rfl).2
    have dbx00 := (Rows.bc (HR.out.right.right.right.right.right.left) 0 rfl).1
    have dbx01 := (Rows.bc (HR.out.right.right.right.right.right.left) 1 rfl).1
    have dbx02 := (Rows.bc (HR.out.right.right.right.right.right.left) 2 rfl).1
    have tbx0 := (Rows.bc (HR.out.right.right.right.right.right.left) 0 rfl).2
    have dbW00 := (Rows.bc (HR.out.right.right.right.right.right.right.right.left) 0 rfl).1
    have dbW01 := (Rows.bc (HR.out.right.right.right.right.right.right.right.left) 1 rfl).1
    have dbW02 := (Rows.bc (HR.out.right.right.right.right.right.right.right.left) 2 rfl).1
    have tbW0 := (Rows.bc (HR.out.right.right.right.right.right.right.right.left) 0 rfl).2
    have da10 := (Rows.bc (HR.out.right.right.right.right.right.right.right.right.right.left) 0 rfl).1
    have da11 := (Rows.bc (HR.out.right.right.right.right.right.right.right.right.right.left) 1 rfl).1
    have da12 := (Rows.bc (HR.out.right.right.right.right.right.right.right.right.right.left) 2 rfl).1
    have ta1 := (Rows.bc (HR.out.right.right.right.right.right.right.right.right.right.left) 0 rfl).2
    have da00 := (Rows.bc (HR.out.right.right.right.right.right.right.right.right.right.right) 0 rfl).1
    have da01 := (Rows.bc (HR.out.right.right.right.right.right.right.right.right.right.right) 1 rfl).1
    have da02 := (Rows.bc (HR.out.right.right.right.right.right.right.right.right.right.right) 2 rfl).1
    have ta0 := (Rows.bc (HR.out.right.right.right.right.right.right.right.right.right.right) 0 rfl).2
    refine hK.out _ _ ⟨dbx10, dbx11, dbx12, da10, da11, da12⟩ (fun hS9 => ?_)
    refine wpAnyH_take (i := 4) (oi := ?oi142) (v := ?v142) ?hi142 (by kernel_rfl) ?hf142 ?hr142 ?hQ142 (Or.inl ⟨?hw142, ?hy142⟩) (by assumption) ?rest142
    case hi142 => simp only [List.getElem?_toArray, List.getElem?_cons_succ, List.getElem?_cons_zero]; rfl
    case hf142 => kernel_rfl
    case hr142 => kernel_rfl
    case hw142 => rfl
    case hy142 => (intro w hSw; (try dsimp only at hSw); go_simp; all_goals (first | done | with_reducible rfl))
    case hQ142 => exact fun _ _ _ h => h
    simp only [Act.put, List.setIfInBounds_toArray, List.set_cons_zero, List.set_cons_succ]
    refine wpAnyH_done (by kernel_rfl) ?_ _
    replace HR := hid (HR.out.sub (List.sublist_append_right _ _))
    clear Sy1
    clear dbG00 dbG01 dbG02 tbG0 dbx10 dbx11 dbx12 tbx1 dbx00 dbx01 dbx02 tbx0 dbW00 dbW01 dbW02 tbW0 da10 da11 da12 ta1 da00 da01 da02 ta0
    have dbG00 := (Rows.bc (HR.out.left) 0 rfl).1
    have dbG01 := (Rows.bc (HR.out.left) 1 rfl).1
    have dbG02 := (Rows.bc (HR.out.left) 2 rfl).1
    have tbG0 := (Rows.bc (HR.out.left) 0 rfl).2
    have dbx10 := (Rows.bc (HR.out.right.right.left) 0 rfl).1
    have dbx11 := (Rows.bc (HR.out.right.right.left) 1 rfl).1
    have dbx12 := (Rows.bc (HR.out.right.right.left) 2 rfl).1
    have tbx1 := (Rows.bc (HR.out.right.right.left) 0 rfl).2
    have dbx00 := (Rows.bc (HR.out.right.right.right.right.left) 0 rfl).1
    have dbx01 := (Rows.bc (HR.out.right.right.right.right.left) 1 rfl).1
    have dbx02 := (Rows.bc (HR.out.right.right.right.right.left) 2 rfl).1
    have tbx0 := (Rows.bc (HR.out.right.right.right.right.left) 0 rfl).2
    have dbW00 := (Rows.bc (HR.out.right.right.right.right.right.right.left) 0 rfl).1
    have dbW01 := (Rows.bc (HR.out.right.right.right.right.right.right.left) 1 rfl).1
    have dbW02 := (Rows.bc (HR.out.right.right.right.right.right.right.left) 2 rfl).1
    have tbW0 := (Rows.bc (HR.out.right.right.right.right.right.right.left) 0 rfl).2
    have da10 := (Rows.bc (HR.out.right.right.right.right.right.right.right.right.left) 0 rfl).1
    have da11 := (Rows.bc (HR.out.right.right.right.right.right.right.right.right.left) 1 rfl).1
    have da12 := (Rows.bc (HR.out.right.right.right.right.right.right.right.right.left) 2 rfl).1
    have ta1 := (Rows.bc (HR.out.right.right.right.right.right.right.right.right.left) 0 rfl).2
    have da00 := (Rows.bc (HR.out.right.right.right.right.right.right.right.right.right) 0 rfl).1
    have da01 := (Rows.bc (HR.out.right.right.right.right.right.right.right.right.right) 1 rfl).1
    have da02 := (Rows.bc (HR.out.right.right.right.right.right.right.right.right.right) 2 rfl).1
    have ta0 := (Rows.bc (HR.out.right.right.right.right.right.right.right.right.right) 0 rfl).2
    replace HR := hid (HR.out.perm (((((((((List.perm_append_comm_assoc _ _ _).append_left _).trans (List.perm_append_comm_assoc _ _ _)).append_left _).trans (List.perm_append_comm_assoc _ _ _)).append_left _).trans (List.perm_append_comm_assoc _ _ _)).append_left _).trans (List.perm_append_comm_assoc _ _ _)))
    go_wp2_with fail
    refine (markTreX_c (k := 1) Sx0.out HR.out HB.out.size F0.out (by omega)).mono ?_
    rintro e w59 ⟨rx0, rsx0, rfl, hM, hr, hb, hlx0⟩
    replace HR := hid hr
    replace HB := hid (HB.out.trans hb)
    have Mx0 := hid hM
    clear hr hb hM Sx0
    clear dbG00 dbG01 dbG02 tbG0 dbx10 dbx11 dbx12 tbx1 dbx00 dbx01 dbx02 tbx0 dbW00 dbW01 dbW02 tbW0 da10 da11 da12 ta1 da00 da01 da02 ta0
    have dbG00 := (Rows.bc (HR.out.right.left) 0 rfl).1
    have dbG01 := (Rows.bc (HR.out.right.left) 1 rfl).1
    have dbG02 := (Rows.bc (HR.out.right.left) 2 rfl).1
    have tbG0 := (Rows.bc (HR.out.right.left) 0 rfl).2
    have dbx10 := (Rows.bc (HR.out.right.right.right.left) 0 rfl).1
    have dbx11 := (Rows.bc (HR.out.right.right.right.left) 1 rfl).1
    have dbx12 := (Rows.bc (HR.out.right.right.right.left) 2 rfl).1
    have tbx1 := (Rows.bc (HR.out.right.right.right.left) 0 rfl).2
    have dbx00 := (Rows.bc (HR.out.right.right.right.right.right.left) 0 rfl).1
    have dbx01 := (Rows.bc (HR.out.right.right.right.right.right.left) 1 rfl).1
    have dbx02 := (Rows.bc (HR.out.right.right.right.right.right.left) 2 rfl).1
    have tbx0 := (Rows.bc (HR.out.right.right.right.right.right.left) 0 rfl).2
    have dbW00 := (Rows.bc (HR.out.right.right.right.right.right.right.left) 0 rfl).1
    have dbW01 := (Rows.bc (HR.out.right.right.right.right.right.right.left) 1 rfl).1
    have dbW02 := (Rows.bc (HR.out.right.right.right.right.right.right.left) 2 rfl).1
    have tbW0 := (Rows.bc (HR.out.right.right.right.right.right.right.left) 0 rfl).2
    have da10 := (Rows.bc (HR.out.right.right.right.right.right.right.right.right.left) 0 rfl).1
    have da11 := (Rows.bc (HR.out.right.right.right.right.right.right.right.right.left) 1 rfl).1
    have da12 := (Rows.bc (HR.out.right.right.right.right.right.right.right.right.left) 2 rfl).1
    have ta1 := (Rows.bc (HR.out.right.right.right.right.right.right.right.right.left) 0 rfl).2
    have da00 := (Rows.bc (HR.out.right.right.right.right.right.right.right.right.right) 0 rfl).1
    have da01 := (Rows.bc (HR.out.right.right.right.right.right.right.right.right.right) 1 rfl).1
    have da02 := (Rows.bc (HR.out.right.right.right.right.right.right.right.right.right) 2 rfl).1
    have ta0 := (Rows.bc (HR.out.right.right.right.right.right.right.right.right.right) 0 rfl).2
    replace HR := hid (HR.out.perm (((((((List.perm_append_comm_assoc _ _ _).append_left _).trans (List.perm_append_comm_assoc _ _ _)).append_left _).trans (List.perm_append_comm_assoc _ _ _)).append_left _).trans (List.perm_append_comm_assoc _ _ _)))
    go_wp2_with fail
    refine (markHandlerX_c (k := rx0) Sx1.out HR.out HB.out.size F1.out (by omega)).mono ?_
    rintro e w60 ⟨rx1, rsx1, rfl, hM, hr, hb, hlx1⟩
    replace HR := hid hr
    replace HB := hid (HB.out.trans hb)
    have Mx1 := hid hM
    clear hr hb hM Sx1
    clear dbG00 dbG01 dbG02 tbG0 dbx10 dbx11 dbx12 tbx1 dbx00 dbx01 dbx02 tbx0 dbW00 dbW01 dbW02 tbW0 da10 da11 da12 ta1 da00 da01 da02 ta0
    have dbG00 := (Rows.bc (HR.out.right.right.left) 0 rfl).1
    have dbG01 := (Rows.bc (HR.out.right.right.left) 1 rfl).1
    have dbG02 := (Rows.bc (HR.out.right.right.left) 2 rfl).1
    have tbG0 := (Rows.bc (HR.out.right.right.left) 0 rfl).2
    have dbx10 := (Rows.bc (HR.out.right.right.right.right.left) 0 rfl).1
    have dbx11 := (Rows.bc (HR.out.right.right.right.right.left) 1 rfl).1
    have dbx12 := (Rows.bc (HR.out.right.right.right.right.left) 2 rfl).1
    have tbx1 := (Rows.bc (HR.out.right.right.right.right.left) 0 rfl).2
    have dbx00 := (Rows.bc (HR.out.right.right.right.right.right.left) 0 rfl).1
    have dbx01 := (Rows.bc (HR.out.right.right.right.right.right.left) 1 rfl).1
    have dbx02 := (Rows.bc (HR.out.right.right.right.right.right.left) 2 rfl).1
    have tbx0 := (Rows.bc (HR.out.right.right.right.right.right.left) 0 rfl).2
    have dbW00 := (Rows.bc (HR.out.right.right.right.right.right.right.left) 0 rfl).1
    have dbW01 := (Rows.bc (HR.out.right.right.right.right.right.right.left) 1 rfl).1
    have dbW02 := (Rows.bc (HR.out.right.right.right.right.right.right.left) 2 rfl).1
    have tbW0 := (Rows.bc (HR.out.right.right.right.right.right.right.left) 0 rfl).2
    have da10 := (Rows.bc (HR.out.right.right.right.right.right.right.right.right.left) 0 rfl).1
    have da11 := (Rows.bc (HR.out.right.right.right.right.right.right.right.right.left) 1 rfl).1
    have da12 := (Rows.bc (HR.out.right.right.right.right.right.right.right.right.left) 2 rfl).1
    have ta1 := (Rows.bc (HR.out.right.right.right.right.right.right.right.right.left) 0 rfl).2
    have da00 := (Rows.bc (HR.out.right.right.right.right.right.right.right.right.right) 0 rfl).1
    have da01 := (Rows.bc (HR.out.right.right.right.right.right.right.right.right.right) 1 rfl).1
    have da02 := (Rows.bc (HR.out.right.right.right.right.right.right.right.right.right) 2 rfl).1
    have ta0 := (Rows.bc (HR.out.right.right.right.right.right.right.right.right.right) 0 rfl).2
    replace HR := hid (HR.out.sub ((List.Sublist.refl _).append (List.sublist_append_right _ _)))
    clear Mx0
    replace HR := hid (HR.out.sub ((List.Sublist.refl _).append ((List.Sublist.refl _).append ((List.Sublist.refl _).append ((List.Sublist.refl _).append (List.sublist_append_right _ _))))))
    replace HR := hid (HR.out.sub (List.sublist_append_right _ _))
    clear Mx1
    replace HR := hid (HR.out.sub ((List.Sublist.refl _).append ((List.Sublist.refl _).append (List.sublist_append_right _ _))))
    clear dbG00 dbG01 dbG02 tbG0 dbx10 dbx11 dbx12 tbx1 dbx00 dbx01 dbx02 tbx0 dbW00 dbW01 dbW02 tbW0 da10 da11 da12 ta1 da00 da01 da02 ta0
    have dbG00 := (Rows.bc (HR.out.left) 0 rfl).1
    have dbG01 := (Rows.bc (HR.out.left) 1 rfl).1
    have dbG02 := (Rows.bc (HR.out.left) 2 rfl).1
    have tbG0 := (Rows.bc (HR.out.left) 0 rfl).2
    have dbW00 := (Rows.bc (HR.out.right.right.left) 0 rfl).1
    have dbW01 := (Rows.bc (HR.out.right.right.left) 1 rfl).1
    have dbW02 := (Rows.bc (HR.out.right.right.left) 2 rfl).1
    have tbW0 := (Rows.bc (HR.out.right.right.left) 0 rfl).2
    have da10 := (Rows.bc (HR.out.right.right.right.right.left) 0 rfl).1
    have da11 := (Rows.bc (HR.out.right.right.right.right.left) 1 rfl).1
    have da12 := (Rows.bc (HR.out.right.right.right.right.left) 2 rfl).1
    have ta1 := (Rows.bc (HR.out.right.right.right.right.left) 0 rfl).2
    have da00 := (Rows.bc (HR.out.right.right.right.right.right) 0 rfl).1
    have da01 := (Rows.bc (HR.out.right.right.right.right.right) 1 rfl).1
    have da02 := (Rows.bc (HR.out.right.right.right.right.right) 2 rfl).1
    have ta0 := (Rows.bc (HR.out.right.right.right.right.right) 0 rfl).2
    go_wp2_with fail
    refine (eqTreX_c SG0.out (HR.out.right.left) SW0.out (HR.out.right.right.right.left) DX0.out).mono ?_
    rintro e w61 ⟨rfl, hb⟩
    replace HR := hid (HR.out.below hb)
    replace HB := hid (HB.out.trans (hb.mono HB.out.size))
    clear hb
    clear dbG00 dbG01 dbG02 tbG0 dbW00 dbW01 dbW02 tbW0 da10 da11 da12 ta1 da00 da01 da02 ta0
    have dbG00 := (Rows.bc (HR.out.left) 0 rfl).1
    have dbG01 := (Rows.bc (HR.out.left) 1 rfl).1
    have dbG02 := (Rows.bc (HR.out.left) 2 rfl).1
    have tbG0 := (Rows.bc (HR.out.left) 0 rfl).2
    have dbW00 := (Rows.bc (HR.out.right.right.left) 0 rfl).1
    have dbW01 := (Rows.bc (HR.out.right.right.left) 1 rfl).1
    have dbW02 := (Rows.bc (HR.out.right.right.left) 2 rfl).1
    have tbW0 := (Rows.bc (HR.out.right.right.left) 0 rfl).2
    have da10 := (Rows.bc (HR.out.right.right.right.right.left) 0 rfl).1
    have da11 := (Rows.bc (HR.out.right.right.right.right.left) 1 rfl).1
    have da12 := (Rows.bc (HR.out.right.right.right.right.left) 2 rfl).1
    have ta1 := (Rows.bc (HR.out.right.right.right.right.left) 0 rfl).2
    have da00 := (Rows.bc (HR.out.right.right.right.right.right) 0 rfl).1
    have da01 := (Rows.bc (HR.out.right.right.right.right.right) 1 rfl).1
    have da02 := (Rows.bc (HR.out.right.right.right.right.right) 2 rfl).1
    have ta0 := (Rows.bc (HR.out.right.right.right.right.right) 0 rfl).2
    replace HR := hid (HR.out.perm (List.perm_append_comm_assoc _ _ _))
    go_wp2_with fail
    refine (markTreX_c (k := 1) SG0.out HR.out HB.out.size DX0.out (by omega)).mono ?_
    rintro e w62 ⟨rG0, rsG0, rfl, hM, hr, hb, hlG0⟩
    replace HR := hid hr
    replace HB := hid (HB.out.trans hb)
    have MG0 := hid hM
    clear hr hb hM SG0
    clear dbG00 dbG01 dbG02 tbG0 dbW00 dbW01 dbW02 tbW0 da10 da11 da12 ta1 da00 da01 da02 ta0
    have dbG00 := (Rows.bc (HR.out.right.left) 0 rfl).1
    have dbG01 := (Rows.bc (HR.out.right.left) 1 rfl).1
    have dbG02 := (Rows.bc (HR.out.right.left) 2 rfl).1
    have tbG0 := (Rows.bc (HR.out.right.left) 0 rfl).2
    have dbW00 := (Rows.bc (HR.out.right.right.left) 0 rfl).1
    have dbW01 := (Rows.bc (HR.out.right.right.left) 1 rfl).1
    have dbW02 := (Rows.bc (HR.out.right.right.left) 2 rfl).1
    have tbW0 := (Rows.bc (HR.out.right.right.left) 0 rfl).2
    have da10 := (Rows.bc (HR.out.right.right.right.right.left) 0 rfl).1
    have da11 := (Rows.bc (HR.out.right.right.right.right.left) 1 rfl).1
    have da12 := (Rows.bc (HR.out.right.right.right.right.left) 2 rfl).1
    have ta1 := (Rows.bc (HR.out.right.right.right.right.left) 0 rfl).2
    have da00 := (Rows.bc (HR.out.right.right.right.right.right) 0 rfl).1
    have da01 := (Rows.bc (HR.out.right.right.right.right.right) 1 rfl).1
    have da02 := (Rows.bc (HR.out.right.right.right.right.right) 2 rfl).1
    have ta0 := (Rows.bc (HR.out.right.right.right.right.right) 0 rfl).2
    go_wp2_with fail
    refine (heldTreX_c MG0.out (HR.out.left)).mono ?_
    rintro e w63 ⟨rfl, hb⟩
    replace HR := hid (HR.out.below hb)
    replace HB := hid (HB.out.trans (hb.mono HB.out.size))
    clear hb
    clear dbG00 dbG01 dbG02 tbG0 dbW00 dbW01 dbW02 tbW0 da10 da11 da12 ta1 da00 da01 da02 ta0
    have dbG00 := (Rows.bc (HR.out.right.left) 0 rfl).1
    have dbG01 := (Rows.bc (HR.out.right.left) 1 rfl).1
    have dbG02 := (Rows.bc (HR.out.right.left) 2 rfl).1
    have tbG0 := (Rows.bc (HR.out.right.left) 0 rfl).2
    have dbW00 := (Rows.bc (HR.out.right.right.left) 0 rfl).1
    have dbW01 := (Rows.bc (HR.out.right.right.left) 1 rfl).1
    have dbW02 := (Rows.bc (HR.out.right.right.left) 2 rfl).1
    have tbW0 := (Rows.bc (HR.out.right.right.left) 0 rfl).2
    have da10 := (Rows.bc (HR.out.right.right.right.right.left) 0 rfl).1
    have da11 := (Rows.bc (HR.out.right.right.right.right.left) 1 rfl).1
    have da12 := (Rows.bc (HR.out.right.right.right.right.left) 2 rfl).1
    have ta1 := (Rows.bc (HR.out.right.right.right.right.left) 0 rfl).2
    have da00 := (Rows.bc (HR.out.right.right.right.right.right) 0 rfl).1
    have da01 := (Rows.bc (HR.out.right.right.right.right.right) 1 rfl).1
    have da02 := (Rows.bc (HR.out.right.right.right.right.right) 2 rfl).1
    have ta0 := (Rows.bc (HR.out.right.right.right.right.right) 0 rfl).2
    go_wp2_with fail
    go_cut [15, 16] from 17 (fun s15 s16 wc => ∃ (bb : Nat) (fh00 : Option Addr) (fh01 : Nat) (fh02 : Nat) (fh03 : Option Addr) (fh04 : Nat) (fh05 : Nat) (rsh0 : List Row) (rsz1 : List Row) (vz1 : Value) (rsz0 : List Row) (vz0 : Value), s15 = .pointer (some ⟨bb, 0, none⟩) ∧ s16 = .bool X1 ∧ TreR rsh0 (.agg #[.slice fh00 fh01 fh02, .slice fh03 fh04 fh05, .int .i64 X0.2.2]) X0 ∧ HdlR rsz1 vz1 d1 ∧ TreR rsz0 vz0 d0 ∧ Rows wc w.heap.size ([bxRow 32 3 (bb) [.slice fh00 fh01 fh02, .slice fh03 fh04 fh05, .int .i64 X0.2.2]] ++ (rsh0 ++ (rsz1 ++ (rsz0 ++ (rsG0 ++ ([bxRow 32 3 (w53.heap.size) [.slice fG00 fG01 fG02, .slice fG03 fG04 fG05, .int .i64 X0.2.2]] ++ ([bxRow 32 3 (bbW) [.slice fW00 fW01 fW02, .slice fW03 fW04 fW05, .int .i64 X0.2.2]] ++ (rsW0 ++ ([bxRow 43 3 (w.heap.size + 1) [.string ⟨d1.nm.toArray⟩, .int .i64 d1.lv, .slice A1 n1 c1]] ++ ([bxRow 25 3 (w.heap.size) [.slice Aa0 na0 ca0, .slice Ab0 nb0 cb0, .int .i64 d0.2.2]])))))))))) ∧ Below w.heap.size w wc)
    case first =>
      refine wp_region_held_drew (S := (fun w' : World => w'.cell? ⟨w.heap.size, 0, none⟩ = some (.slice Aa0 na0 ca0) ∧ w'.cell? ⟨w.heap.size, 1, none⟩ = some (.slice Ab0 nb0 cb0) ∧ w'.cell? ⟨w.heap.size, 2, none⟩ = some (.int .i64 d0.2.2) ∧ w'.cell? ⟨w.heap.size + 1, 0, none⟩ = some (.string ⟨d1.nm.toArray⟩) ∧ w'.cell? ⟨w.heap.size + 1, 1, none⟩ = some (.int .i64 d1.lv) ∧ w'.cell? ⟨w.heap.size + 1, 2, none⟩ = some (.slice A1 n1 c1))) (by kernel_rfl) ⟨da00, da01, da02, da10, da11, da12⟩ (fun hS => ?_)
      refine wpAnyH_take (i := 0) (oi := ?oi143) (v := ?v143) ?hi143 (by kernel_rfl) ?hf143 ?hr143 ?hQ143 (Or.inl ⟨?hw143, ?hy143⟩) (by assumption) ?rest143
      case hi143 => simp only [List.getElem?_toArray, List.getElem?_cons_succ, List.getElem?_cons_zero]; rfl
      case hf143 => kernel_rfl
      case hr143 => kernel_rfl
      case hw143 => rfl
      case hy143 => (intro w hSw; (try dsimp only at hSw); go_simp; all_goals (first | done | with_reducible rfl))
      case hQ143 => exact fun _ _ _ h => h
      simp only [Act.put, List.setIfInBounds_toArray, List.set_cons_zero, List.set_cons_succ]
      refine wpAnyH_take (i := 2) (oi := ?oi144) (v := ?v144) ?hi144 (by kernel_rfl) ?hf144 ?hr144 ?hQ144 (Or.inl ⟨?hw144, ?hy144⟩) (by assumption) ?rest144
      case hi144 => simp only [List.getElem?_toArray, List.getElem?_cons_succ, List.getElem?_cons_zero]; rfl
      case hf144 => kernel_rfl
      case hr144 => kernel_rfl
      case hw144 => rfl
      case hy144 => (intro w hSw; (try dsimp only at hSw); go_simp; all_goals (first | done | with_reducible rfl))
      case hQ144 => exact fun _ _ _ h => h
      simp only [Act.put, List.setIfInBounds_toArray, List.set_cons_zero, List.set_cons_succ]
      replace HR := hid (HR.out.below ((Below.refl w63.heap.size w63).drew))
      replace HB := hid HB.out.drew
      clear dbG00 dbG01 dbG02 tbG0 dbW00 dbW01 dbW02 tbW0 da10 da11 da12 ta1 da00 da01 da02 ta0
      generalize w63.drew = w64 at *
      have dbG00 := (Rows.bc (HR.out.right.left) 0 rfl).1
      have dbG01 := (Rows.bc (HR.out.right.left) 1 rfl).1
      have dbG02 := (Rows.bc (HR.out.right.left) 2 rfl).1
      have tbG0 := (Rows.bc (HR.out.right.left) 0 rfl).2
      have dbW00 := (Rows.bc (HR.out.right.right.left) 0 rfl).1
      have dbW01 := (Rows.bc (HR.out.right.right.left) 1 rfl).1
      have dbW02 := (Rows.bc (HR.out.right.right.left) 2 rfl).1
      have tbW0 := (Rows.bc (HR.out.right.right.left) 0 rfl).2
      have da10 := (Rows.bc (HR.out.right.right.right.right.left) 0 rfl).1
      have da11 := (Rows.bc (HR.out.right.right.right.right.left) 1 rfl).1
      have da12 := (Rows.bc (HR.out.right.right.right.right.left) 2 rfl).1
      have ta1 := (Rows.bc (HR.out.right.right.right.right.left) 0 rfl).2
      have da00 := (Rows.bc (HR.out.right.right.right.right.right) 0 rfl).1
      have da01 := (Rows.bc (HR.out.right.right.right.right.right) 1 rfl).1
      have da02 := (Rows.bc (HR.out.right.right.right.right.right) 2 rfl).1
      have ta0 := (Rows.bc (HR.out.right.right.right.right.right) 0 rfl).2
      refine wpAnyH_ready (rs := [1, 8]) (by kernel_rfl) (by simp) ?_
      refine AllReadyH.cons (o := ?oi145) ?hi145 (fun K hK => ?stepA145) (AllReadyH.cons (o := ?oj145) ?hj145 (fun K hK => ?stepB145) AllReadyH.nil)
      case hi145 => simp only [List.getElem?_toArray, List.getElem?_cons_succ, List.getElem?_cons_zero]; rfl
      case hj145 => simp only [List.getElem?_toArray, List.getElem?_cons_succ, List.getElem?_cons_zero]; rfl
      all_goals rw [if_pos (by rfl)]
      all_goals go_simp
      · go_at_call 13
        refine (toTreY_c Aa0 na0 ca0 Ab0 nb0 cb0 d0 w.heap.size _ (T0.out.below HB.out (Nat.le_refl _)) HB.out.size F0.out).mono ?_
        rintro e w65 ⟨v, rsz0, rfl, hs, hr, hb⟩
        obtain ⟨fz00, fz01, fz02, fz03, fz04, fz05, rfl⟩ := hs.form hr
        have Sz0 := hid hs
        clear hs
        replace HR := hid (HR.out.newer hb hr HB.out.size)
        replace HB := hid (HB.out.trans (hb.mono HB.out.size))
        clear hb hr
        clear dbG00 dbG01 dbG02 tbG0 dbW00 dbW01 dbW02 tbW0 da10 da11 da12 ta1 da00 da01 da02 ta0
        have dbG00 := (Rows.bc (HR.out.right.right.left) 0 rfl).1
        have dbG01 := (Rows.bc (HR.out.right.right.left) 1 rfl).1
        have dbG02 := (Rows.bc (HR.out.right.right.left) 2 rfl).1
        have tbG0 := (Rows.bc (HR.out.right.right.left) 0 rfl).2
        have dbW00 := (Rows.bc (HR.out.right.right.right.left) 0 rfl).1
        have dbW01 := (Rows.bc (HR.out.right.right.right.left) 1 rfl).1
        have dbW02 := (Rows.bc (HR.out.right.right.right.left) 2 rfl).1
        have tbW0 := (Rows.bc (HR.out.right.right.right.left) 0 rfl).2
        have da10 := (Rows.bc (HR.out.right.right.right.right.right.left) 0 rfl).1
        have da11 := (Rows.bc (HR.out.right.right.right.right.right.left) 1 rfl).1
        have da12 := (Rows.bc (HR.out.right.right.right.right.right.left) 2 rfl).1
        have ta1 := (Rows.bc (HR.out.right.right.right.right.right.left) 0 rfl).2
        have da00 := (Rows.bc (HR.out.right.right.right.right.right.right) 0 rfl).1
        have da01 := (Rows.bc (HR.out.right.right.right.right.right.right) 1 rfl).1
        have da02 := (Rows.bc (HR.out.right.right.right.right.right.right) 2 rfl).1
        have ta0 := (Rows.bc (HR.out.right.right.right.right.right.right) 0 rfl).2
        refine hK.out _ _ ⟨da00, da01, da02, da10, da11, da12⟩ (fun hS9 => ?_)
        refine wpAnyH_ready (rs := [3, 8]) (by kernel_rfl) (by simp) ?_
        refine AllReadyH.cons (o := ?oi146) ?hi146 (fun K hK => ?stepA146) (AllReadyH.cons (o := ?oj146) ?hj146 (fun K hK => ?stepB146) AllReadyH.nil)
        case hi146 => simp only [List.getElem?_toArray, List.getElem?_cons_succ, List.getElem?_cons_zero]; rfl
        case hj146 => simp only [List.getElem?_toArray, List.getElem?_cons_succ, List.getElem?_cons_zero]; rfl
        all_goals rw [if_pos (by rfl)]
        all_goals go_simp
        · go_at_call 24
          refine (toHandlerY_c A1 n1 c1 d1 w.heap.size _ (T1.out.below HB.out (Nat.le_refl _)) HB.out.size F1.out).mono ?_
          rintro e w66 ⟨v, rsz1, rfl, hs, hr, hb⟩
          obtain ⟨fz10, fz11, fz12, rfl⟩ := hs.form hr
          have Sz1 := hid hs
          clear hs
          replace HR := hid (HR.out.newer hb hr HB.out.size)
          replace HB := hid (HB.out.trans (hb.mono HB.out.size))
          clear hb hr
          clear dbG00 dbG01 dbG02 tbG0 dbW00 dbW01 dbW02 tbW0 da10 da11 da12 ta1 da00 da01 da02 ta0
          have dbG00 := (Rows.bc (HR.out.right.right.right.left) 0 rfl).1
          have dbG01 := (Rows.bc (HR.out.right.right.right.left) 1 rfl).1
          have dbG02 := (Rows.bc (HR.out.right.right.right.left) 2 rfl).1
          have tbG0 := (Rows.bc (HR.out.right.right.right.left) 0 rfl).2
          have dbW00 := (Rows.bc (HR.out.right.right.right.right.left) 0 rfl).1
          have dbW01 := (Rows.bc (HR.out.right.right.right.right.left) 1 rfl).1
          have dbW02 := (Rows.bc (HR.out.right.right.right.right.left) 2 rfl).1
          have tbW0 := (Rows.bc (HR.out.right.right.right.right.left) 0 rfl).2
          have da10 := (Rows.bc (HR.out.right.right.right.right.right.right.left) 0 rfl).1
          have da11 := (Rows.bc (HR.out.right.right.right.right.right.right.left) 1 rfl).1
          have da12 := (Rows.bc (HR.out.right.right.right.right.right.right.left) 2 rfl).1
          have ta1 := (Rows.bc (HR.out.right.right.right.right.right.right.left) 0 rfl).2
          have da00 := (Rows.bc (HR.out.right.right.right.right.right.right.right) 0 rfl).1
          have da01 := (Rows.bc (HR.out.right.right.right.right.right.right.right) 1 rfl).1
          have da02 := (Rows.bc (HR.out.right.right.right.right.right.right.right) 2 rfl).1
          have ta0 := (Rows.bc (HR.out.right.right.right.right.right.right.right) 0 rfl).2
          refine hK.out _ _ ⟨da00, da01, da02, da10, da11, da12⟩ (fun hS9 => ?_)
          refine wpAnyH_ready (rs := [4, 8]) (by kernel_rfl) (by simp) ?_
          refine AllReadyH.cons (o := ?oi147) ?hi147 (fun K hK => ?stepA147) (AllReadyH.cons (o := ?oj147) ?hj147 (fun K hK => ?stepB147) AllReadyH.nil)
          case hi147 => simp only [List.getElem?_toArray, List.getElem?_cons_succ, List.getElem?_cons_zero]; rfl
          case hj147 => simp only [List.getElem?_toArray, List.getElem?_cons_succ, List.getElem?_cons_zero]; rfl
          all_goals rw [if_pos (by rfl)]
          all_goals go_simp
          · go_at_call 25
            refine (cI.out _ _ (Sz0.out.at_ (HR.out.right.left) F0.out) _ (Sz1.out.at_ (HR.out.left) F1.out)).mono ?_
            rintro e w67 ⟨v0, rsh0, rfl, hs0, hr, hb⟩
            obtain ⟨fh00, fh01, fh02, fh03, fh04, fh05, rfl⟩ := hs0.form hr
            have Sh0 := hid hs0
            clear hs0
            replace HR := hid (HR.out.newer hb hr HB.out.size)
            replace HB := hid (HB.out.trans (hb.mono HB.out.size))
            clear hb hr
            clear dbG00 dbG01 dbG02 tbG0 dbW00 dbW01 dbW02 tbW0 da10 da11 da12 ta1 da00 da01 da02 ta0
            have dbG00 := (Rows.bc (HR.out.right.right.right.right.left) 0 rfl).1
            have dbG01 := (Rows.bc (HR.out.right.right.right.right.left) 1 rfl).1
            have dbG02 := (Rows.bc (HR.out.right.right.right.right.left) 2 rfl).1
            have tbG0 := (Rows.bc (HR.out.right.right.right.right.left) 0 rfl).2
            have dbW00 := (Rows.bc (HR.out.right.right.right.right.right.left) 0 rfl).1
            have dbW01 := (Rows.bc (HR.out.right.right.right.right.right.left) 1 rfl).1
            have dbW02 := (Rows.bc (HR.out.right.right.right.right.right.left) 2 rfl).1
            have tbW0 := (Rows.bc (HR.out.right.right.right.right.right.left) 0 rfl).2
            have da10 := (Rows.bc (HR.out.right.right.right.right.right.right.right.left) 0 rfl).1
            have da11 := (Rows.bc (HR.out.right.right.right.right.right.right.right.left) 1 rfl).1
            have da12 := (Rows.bc (HR.out.right.right.right.right.right.right.right.left) 2 rfl).1
            have ta1 := (Rows.bc (HR.out.right.right.right.right.right.right.right.left) 0 rfl).2
            have da00 := (Rows.bc (HR.out.right.right.right.right.right.right.right.right) 0 rfl).1
            have da01 := (Rows.bc (HR.out.right.right.right.right.right.right.right.right) 1 rfl).1
            have da02 := (Rows.bc (HR.out.right.right.right.right.right.right.right.right) 2 rfl).1
            have ta0 := (Rows.bc (HR.out.right.right.right.right.right.right.right.right) 0 rfl).2
            refine hK.out _ _ ⟨da00, da01, da02, da10, da11, da12⟩ (fun hS9 => ?_)
            refine wpAnyH_take (i := 5) (oi := ?oi148) (v := ?v148) ?hi148 (by kernel_rfl) ?hf148 ?hr148 ?hQ148 (Or.inl ⟨?hw148, ?hy148⟩) (by assumption) ?rest148
            case hi148 => simp only [List.getElem?_toArray, List.getElem?_cons_succ, List.getElem?_cons_zero]; rfl
            case hf148 => kernel_rfl
            case hr148 => kernel_rfl
            case hw148 => rfl
            case hy148 => (intro w hSw; (try dsimp only at hSw); go_simp; all_goals (first | done | with_reducible rfl))
            case hQ148 => exact fun _ _ _ h => h
            simp only [Act.put, List.setIfInBounds_toArray, List.set_cons_zero, List.set_cons_succ]
            refine wpAnyH_take (i := 6) (oi := ?oi149) (v := ?v149) ?hi149 (by kernel_rfl) ?hf149 ?hr149 ?hQ149 (Or.inl ⟨?hw149, ?hy149⟩) (by assumption) ?rest149
            case hi149 => simp only [List.getElem?_toArray, List.getElem?_cons_succ, List.getElem?_cons_zero]; rfl
            case hf149 => kernel_rfl
            case hr149 => kernel_rfl
            case hw149 => rfl
            case hy149 => (intro w hSw; (try dsimp only at hSw); go_simp; all_goals (first | done | with_reducible rfl))
            case hQ149 => exact fun _ _ _ h => h
            simp only [Act.put, List.setIfInBounds_toArray, List.set_cons_zero, List.set_cons_succ]
            refine wpAnyH_take (i := 7) (oi := ?oi150) (v := ?v150) ?hi150 (by kernel_rfl) ?hf150 ?hr150 ?hQ150 (Or.inl ⟨?hw150, ?hy150⟩) (by assumption) ?rest150
            case hi150 => simp only [List.getElem?_toArray, List.getElem?_cons_succ, List.getElem?_cons_zero]; rfl
            case hf150 => kernel_rfl
            case hr150 => kernel_rfl
            case hw150 => rfl
            case hy150 => (intro w hSw; (try dsimp only at hSw); go_simp; all_goals (first | done | with_reducible rfl))
            case hQ150 => exact fun _ _ _ h => h
            simp only [Act.put, List.setIfInBounds_toArray, List.set_cons_zero, List.set_cons_succ]
            refine wpAnyH_ready (rs := [8]) (by kernel_rfl) (by simp) ?_
            refine AllReadyH.cons (o := ?oi151) ?hi151 (fun K hK => ?step151) AllReadyH.nil
            case hi151 => simp only [List.getElem?_toArray, List.getElem?_cons_succ, List.getElem?_cons_zero]; rfl
            rw [if_pos (by rfl)]
            go_simp
            have ne_a0 : w67.heap.size ≠ w.heap.size := Nat.ne_of_gt ta0
            have ne_a1 : w67.heap.size ≠ w.heap.size + 1 := Nat.ne_of_gt ta1
            have nle : w.heap.size ≤ w67.heap.size := HB.out.size
            have hb : Below w67.heap.size w67 (w67.alloc (.cells #[.slice none 0 0, .slice none 0 0, .int .i64 0] 32)) := (Below.refl _ _).alloc (Nat.le_refl _) _
            have hr := Rows.box w67 #[.slice none 0 0, .slice none 0 0, .int .i64 0] 32 3 rfl
            replace HR := hid (HR.out.newer hb hr HB.out.size)
            replace HB := hid (HB.out.trans (hb.mono HB.out.size))
            clear hb hr
            clear dbG00 dbG01 dbG02 tbG0 dbW00 dbW01 dbW02 tbW0 da10 da11 da12 ta1 da00 da01 da02 ta0
            have dbh00 := (Rows.bc (HR.out.left) 0 rfl).1
            have dbh01 := (Rows.bc (HR.out.left) 1 rfl).1
            have dbh02 := (Rows.bc (HR.out.left) 2 rfl).1
            have tbh0 := (Rows.bc (HR.out.left) 0 rfl).2
            have dbG00 := (Rows.bc (HR.out.right.right.right.right.right.left) 0 rfl).1
            have dbG01 := (Rows.bc (HR.out.right.right.right.right.right.left) 1 rfl).1
            have dbG02 := (Rows.bc (HR.out.right.right.right.right.right.left) 2 rfl).1
            have tbG0 := (Rows.bc (HR.out.right.right.right.right.right.left) 0 rfl).2
            have dbW00 := (Rows.bc (HR.out.right.right.right.right.right.right.left) 0 rfl).1
            have dbW01 := (Rows.bc (HR.out.right.right.right.right.right.right.left) 1 rfl).1
            have dbW02 := (Rows.bc (HR.out.right.right.right.right.right.right.left) 2 rfl).1
            have tbW0 := (Rows.bc (HR.out.right.right.right.right.right.right.left) 0 rfl).2
            have da10 := (Rows.bc (HR.out.right.right.right.right.right.right.right.right.left) 0 rfl).1
            have da11 := (Rows.bc (HR.out.right.right.right.right.right.right.right.right.left) 1 rfl).1
            have da12 := (Rows.bc (HR.out.right.right.right.right.right.right.right.right.left) 2 rfl).1
            have ta1 := (Rows.bc (HR.out.right.right.right.right.right.right.right.right.left) 0 rfl).2
            have da00 := (Rows.bc (HR.out.right.right.right.right.right.right.right.right.right) 0 rfl).1
            have da01 := (Rows.bc (HR.out.right.right.right.right.right.right.right.right.right) 1 rfl).1
            have da02 := (Rows.bc (HR.out.right.right.right.right.right.right.right.right.right) 2 rfl).1
            have ta0 := (Rows.bc (HR.out.right.right.right.right.right.right.right.right.right) 0 rfl).2
            refine hK.out _ _ ⟨da00, da01, da02, da10, da11, da12⟩ (fun hS9 => ?_)
            clear dbh00 dbh01 dbh02 tbh0 dbG00 dbG01 dbG02 tbG0 dbW00 dbW01 dbW02 tbW0 da10 da11 da12 ta1 da00 da01 da02 ta0
            generalize (w67.alloc (.cells #[.slice none 0 0, .slice none 0 0, .int .i64 0] 32)) = w68 at *
            have dbh00 := (Rows.bc (HR.out.left) 0 rfl).1
            have dbh01 := (Rows.bc (HR.out.left) 1 rfl).1
            have dbh02 := (Rows.bc (HR.out.left) 2 rfl).1
            have tbh0 := (Rows.bc (HR.out.left) 0 rfl).2
            have dbG00 := (Rows.bc (HR.out.right.right.right.right.right.left) 0 rfl).1
            have dbG01 := (Rows.bc (HR.out.right.right.right.right.right.left) 1 rfl).1
            have dbG02 := (Rows.bc (HR.out.right.right.right.right.right.left) 2 rfl).1
            have tbG0 := (Rows.bc (HR.out.right.right.right.right.right.left) 0 rfl).2
            have dbW00 := (Rows.bc (HR.out.right.right.right.right.right.right.left) 0 rfl).1
            have dbW01 := (Rows.bc (HR.out.right.right.right.right.right.right.left) 1 rfl).1
            have dbW02 := (Rows.bc (HR.out.right.right.right.right.right.right.left) 2 rfl).1
            have tbW0 := (Rows.bc (HR.out.right.right.right.right.right.right.left) 0 rfl).2
            have da10 := (Rows.bc (HR.out.right.right.right.right.right.right.right.right.left) 0 rfl).1
            have da11 := (Rows.bc (HR.out.right.right.right.right.right.right.right.right.left) 1 rfl).1
            have da12 := (Rows.bc (HR.out.right.right.right.right.right.right.right.right.left) 2 rfl).1
            have ta1 := (Rows.bc (HR.out.right.right.right.right.right.right.right.right.left) 0 rfl).2
            have da00 := (Rows.bc (HR.out.right.right.right.right.right.right.right.right.right) 0 rfl).1
            have da01 := (Rows.bc (HR.out.right.right.right.right.right.right.right.right.right) 1 rfl).1
            have da02 := (Rows.bc (HR.out.right.right.right.right.right.right.right.right.right) 2 rfl).1
            have ta0 := (Rows.bc (HR.out.right.right.right.right.right.right.right.right.right) 0 rfl).2
            clear dbh00 dbh01 dbh02 tbh0 dbG00 dbG01 dbG02 tbG0 dbW00 dbW01 dbW02 tbW0 da10 da11 da12 ta1 da00 da01 da02 ta0
            have dbh00 := (Rows.bc (HR.out.left) 0 rfl).1
            have dbh01 := (Rows.bc (HR.out.left) 1 rfl).1
            have dbh02 := (Rows.bc (HR.out.left) 2 rfl).1
            have tbh0 := (Rows.bc (HR.out.left) 0 rfl).2
            have dbG00 := (Rows.bc (HR.out.right.right.right.right.right.left) 0 rfl).1
            have dbG01 := (Rows.bc (HR.out.right.right.right.right.right.left) 1 rfl).1
            have dbG02 := (Rows.bc (HR.out.right.right.right.right.right.left) 2 rfl).1
            have tbG0 := (Rows.bc (HR.out.right.right.right.right.right.left) 0 rfl).2
            have dbW00 := (Rows.bc (HR.out.right.right.right.right.right.right.left) 0 rfl).1
            have dbW01 := (Rows.bc (HR.out.right.right.right.right.right.right.left) 1 rfl).1
            have dbW02 := (Rows.bc (HR.out.right.right.right.right.right.right.left) 2 rfl).1
            have tbW0 := (Rows.bc (HR.out.right.right.right.right.right.right.left) 0 rfl).2
            have da10 := (Rows.bc (HR.out.right.right.right.right.right.right.right.right.left) 0 rfl).1
            have da11 := (Rows.bc (HR.out.right.right.right.right.right.right.right.right.left) 1 rfl).1
            have da12 := (Rows.bc (HR.out.right.right.right.right.right.right.right.right.left) 2 rfl).1
            have ta1 := (Rows.bc (HR.out.right.right.right.right.right.right.right.right.left) 0 rfl).2
            have da00 := (Rows.bc (HR.out.right.right.right.right.right.right.right.right.right) 0 rfl).1
            have da01 := (Rows.bc (HR.out.right.right.right.right.right.right.right.right.right) 1 rfl).1
            have da02 := (Rows.bc (HR.out.right.right.right.right.right.right.right.right.right) 2 rfl).1
            have ta0 := (Rows.bc (HR.out.right.right.right.right.right.right.right.right.right) 0 rfl).2
            have z0f : w68.frozen? ⟨w67.heap.size, 0, none⟩ = false := (Rows.bcell2 (T := 32) (d := 3) (cs := [.slice none 0 0, .slice none 0 0, .int .i64 0]) (pre := []) (q := 0) HR.out rfl).2.1
            have z1f : w68.frozen? ⟨w67.heap.size, 1, none⟩ = false := (Rows.bcell2 (T := 32) (d := 3) (cs := [.slice none 0 0, .slice none 0 0, .int .i64 0]) (pre := []) (q := 1) HR.out rfl).2.1
            have z2f : w68.frozen? ⟨w67.heap.size, 2, none⟩ = false := (Rows.bcell2 (T := 32) (d := 3) (cs := [.slice none 0 0, .slice none 0 0, .int .i64 0]) (pre := []) (q := 2) HR.out rfl).2.1
            refine wpAnyH_ready (rs := [9]) (by kernel_rfl) (by simp) ?_
            refine AllReadyH.cons (o := ?oi152) ?hi152 (fun K hK => ?step152) AllReadyH.nil
            case hi152 => simp only [List.getElem?_toArray, List.getElem?_cons_succ, List.getElem?_cons_zero]; rfl
            rw [if_pos (by rfl)]
            go_simp
            refine hK.out _ _ ⟨((World.cell?_setCell_far _ _ _ _ ne_a0).trans ((World.cell?_setCell_far _ _ _ _ ne_a0).trans ((World.cell?_setCell_far _ _ _ _ ne_a0).trans da00))), ((World.cell?_setCell_far _ _ _ _ ne_a0).trans ((World.cell?_setCell_far _ _ _ _ ne_a0).trans ((World.cell?_setCell_far _ _ _ _ ne_a0).trans da01))), ((World.cell?_setCell_far _ _ _ _ ne_a0).trans ((World.cell?_setCell_far _ _ _ _ ne_a0).trans ((World.cell?_setCell_far _ _ _ _ ne_a0).trans da02))), ((World.cell?_setCell_far _ _ _ _ ne_a1).trans ((World.cell?_setCell_far _ _ _ _ ne_a1).trans ((World.cell?_setCell_far _ _ _ _ ne_a1).trans da10))), ((World.cell?_setCell_far _ _ _ _ ne_a1).trans ((World.cell?_setCell_far _ _ _ _ ne_a1).trans ((World.cell?_setCell_far _ _ _ _ ne_a1).trans da11))), ((World.cell?_setCell_far _ _ _ _ ne_a1).trans ((World.cell?_setCell_far _ _ _ _ ne_a1).trans ((World.cell?_setCell_far _ _ _ _ ne_a1).trans da12)))⟩ (fun hS9 => ?_)
            refine wpAnyH_take (i := 10) (oi := ?oi153) (v := ?v153) ?hi153 (by kernel_rfl) ?hf153 ?hr153 ?hQ153 (Or.inl ⟨?hw153, ?hy153⟩) (by assumption) ?rest153
            case hi153 => simp only [List.getElem?_toArray, List.getElem?_cons_succ, List.getElem?_cons_zero]; rfl
            case hf153 => kernel_rfl
            case hr153 => kernel_rfl
            case hw153 => rfl
            case hy153 => (intro w hSw; (try dsimp only at hSw); go_simp; all_goals (first | done | with_reducible rfl))
            case hQ153 => exact fun _ _ _ h => h
            simp only [Act.put, List.setIfInBounds_toArray, List.set_cons_zero, List.set_cons_succ]
            refine wpAnyH_done (by kernel_rfl) ?_ _
            replace HR := hid (Rows.boxset (T := 32) (d := 3) (cs := [.slice none 0 0, .slice none 0 0, .int .i64 0]) (pre := []) (j := 0) (u := .slice fh00 fh01 fh02) HR.out)
            replace HR := hid (Rows.boxset (T := 32) (d := 3) (cs := [.slice fh00 fh01 fh02, .slice none 0 0, .int .i64 0]) (pre := []) (j := 1) (u := .slice fh03 fh04 fh05) HR.out)
            replace HR := hid (Rows.boxset (T := 32) (d := 3) (cs := [.slice fh00 fh01 fh02, .slice fh03 fh04 fh05, .int .i64 0]) (pre := []) (j := 2) (u := .int .i64 X0.2.2) HR.out)
            replace HB := hid (((HB.out.setCell (p := ⟨_, 0, none⟩) nle (.slice fh00 fh01 fh02)).setCell (p := ⟨_, 1, none⟩) nle (.slice fh03 fh04 fh05)).setCell (p := ⟨_, 2, none⟩) nle (.int .i64 X0.2.2))
            go_wp2_with fail
            go_meet
            case rel => exact ⟨_, _, _, _, _, _, _, _, _, _, _, _, rfl, rfl, Sh0.out, Sz1.out, Sz0.out, HR.out, HB.out⟩
          · have ne_a0 : w66.heap.size ≠ w.heap.size := Nat.ne_of_gt ta0
            have ne_a1 : w66.heap.size ≠ w.heap.size + 1 := Nat.ne_of_gt ta1
            have nle : w.heap.size ≤ w66.heap.size := HB.out.size
            have hb : Below w66.heap.size w66 (w66.alloc (.cells #[.slice none 0 0, .slice none 0 0, .int .i64 0] 32)) := (Below.refl _ _).alloc (Nat.le_refl _) _
            have hr := Rows.box w66 #[.slice none 0 0, .slice none 0 0, .int .i64 0] 32 3 rfl
            replace HR := hid (HR.out.newer hb hr HB.out.size)
            replace HB := hid (HB.out.trans (hb.mono HB.out.size))
            clear hb hr
            clear dbG00 dbG01 dbG02 tbG0 dbW00 dbW01 dbW02 tbW0 da10 da11 da12 ta1 da00 da01 da02 ta0
            have dbh00 := (Rows.bc (HR.out.left) 0 rfl).1
            have dbh01 := (Rows.bc (HR.out.left) 1 rfl).1
            have dbh02 := (Rows.bc (HR.out.left) 2 rfl).1
            have tbh0 := (Rows.bc (HR.out.left) 0 rfl).2
            have dbG00 := (Rows.bc (HR.out.right.right.right.right.left) 0 rfl).1
            have dbG01 := (Rows.bc (HR.out.right.right.right.right.left) 1 rfl).1
            have dbG02 := (Rows.bc (HR.out.right.right.right.right.left) 2 rfl).1
            have tbG0 := (Rows.bc (HR.out.right.right.right.right.left) 0 rfl).2
            have dbW00 := (Rows.bc (HR.out.right.right.right.right.right.left) 0 rfl).1
            have dbW01 := (Rows.bc (HR.out.right.right.right.right.right.left) 1 rfl).1
            have dbW02 := (Rows.bc (HR.out.right.right.right.right.right.left) 2 rfl).1
            have tbW0 := (Rows.bc (HR.out.right.right.right.right.right.left) 0 rfl).2
            have da10 := (Rows.bc (HR.out.right.right.right.right.right.right.right.left) 0 rfl).1
            have da11 := (Rows.bc (HR.out.right.right.right.right.right.right.right.left) 1 rfl).1
            have da12 := (Rows.bc (HR.out.right.right.right.right.right.right.right.left) 2 rfl).1
            have ta1 := (Rows.bc (HR.out.right.right.right.right.right.right.right.left) 0 rfl).2
            have da00 := (Rows.bc (HR.out.right.right.right.right.right.right.right.right) 0 rfl).1
            have da01 := (Rows.bc (HR.out.right.right.right.right.right.right.right.right) 1 rfl).1
            have da02 := (Rows.bc (HR.out.right.right.right.right.right.right.right.right) 2 rfl).1
            have ta0 := (Rows.bc (HR.out.right.right.right.right.right.right.right.right) 0 rfl).2
            refine hK.out _ _ ⟨da00, da01, da02, da10, da11, da12⟩ (fun hS9 => ?_)
            clear dbh00 dbh01 dbh02 tbh0 dbG00 dbG01 dbG02 tbG0 dbW00 dbW01 dbW02 tbW0 da10 da11 da12 ta1 da00 da01 da02 ta0
            generalize (w66.alloc (.cells #[.slice none 0 0, .slice none 0 0, .int .i64 0] 32)) = w67 at *
            have dbh00 := (Rows.bc (HR.out.left) 0 rfl).1
            have dbh01 := (Rows.bc (HR.out.left) 1 rfl).1
            have dbh02 := (Rows.bc (HR.out.left) 2 rfl).1
            have tbh0 := (Rows.bc (HR.out.left) 0 rfl).2
            have dbG00 := (Rows.bc (HR.out.right.right.right.right.left) 0 rfl).1
            have dbG01 := (Rows.bc (HR.out.right.right.right.right.left) 1 rfl).1
            have dbG02 := (Rows.bc (HR.out.right.right.right.right.left) 2 rfl).1
            have tbG0 := (Rows.bc (HR.out.right.right.right.right.left) 0 rfl).2
            have dbW00 := (Rows.bc (HR.out.right.right.right.right.right.left) 0 rfl).1
            have dbW01 := (Rows.bc (HR.out.right.right.right.right.right.left) 1 rfl).1
            have dbW02 := (Rows.bc (HR.out.right.right.right.right.right.left) 2 rfl).1
            have tbW0 := (Rows.bc (HR.out.right.right.right.right.right.left) 0 rfl).2
            have da10 := (Rows.bc (HR.out.right.right.right.right.right.right.right.left) 0 rfl).1
            have da11 := (Rows.bc (HR.out.right.right.right.right.right.right.right.left) 1 rfl).1
            have da12 := (Rows.bc (HR.out.right.right.right.right.right.right.right.left) 2 rfl).1
            have ta1 := (Rows.bc (HR.out.right.right.right.right.right.right.right.left) 0 rfl).2
            have da00 := (Rows.bc (HR.out.right.right.right.right.right.right.right.right) 0 rfl).1
            have da01 := (Rows.bc (HR.out.right.right.right.right.right.right.right.right) 1 rfl).1
            have da02 := (Rows.bc (HR.out.right.right.right.right.right.right.right.right) 2 rfl).1
            have ta0 := (Rows.bc (HR.out.right.right.right.right.right.right.right.right) 0 rfl).2
            refine wpAnyH_ready (rs := [4]) (by kernel_rfl) (by simp) ?_
            refine AllReadyH.cons (o := ?oi154) ?hi154 (fun K hK => ?step154) AllReadyH.nil
            case hi154 => simp only [List.getElem?_toArray, List.getElem?_cons_succ, List.getElem?_cons_zero]; rfl
            rw [if_pos (by rfl)]
            go_simp
            go_at_call 25
            refine (cI.out _ _ (Sz0.out.at_ (HR.out.right.right.left) F0.out) _ (Sz1.out.at_ (HR.out.right.left) F1.out)).mono ?_
            rintro e w68 ⟨v0, rsh0, rfl, hs0, hr, hb⟩
            obtain ⟨fh00, fh01, fh02, fh03, fh04, fh05, rfl⟩ := hs0.form hr
            have Sh0 := hid hs0
            clear hs0
            replace HR := hid (HR.out.newer hb hr HB.out.size)
            replace HB := hid (HB.out.trans (hb.mono HB.out.size))
            clear hb hr
            clear dbh00 dbh01 dbh02 tbh0 dbG00 dbG01 dbG02 tbG0 dbW00 dbW01 dbW02 tbW0 da10 da11 da12 ta1 da00 da01 da02 ta0
            have dbh00 := (Rows.bc (HR.out.right.left) 0 rfl).1
            have dbh01 := (Rows.bc (HR.out.right.left) 1 rfl).1
            have dbh02 := (Rows.bc (HR.out.right.left) 2 rfl).1
            have tbh0 := (Rows.bc (HR.out.right.left) 0 rfl).2
            have dbG00 := (Rows.bc (HR.out.right.right.right.right.right.left) 0 rfl).1
            have dbG01 := (Rows.bc (HR.out.right.right.right.right.right.left) 1 rfl).1
            have dbG02 := (Rows.bc (HR.out.right.right.right.right.right.left) 2 rfl).1
            have tbG0 := (Rows.bc (HR.out.right.right.right.right.right.left) 0 rfl).2
            have dbW00 := (Rows.bc (HR.out.right.right.right.right.right.right.left) 0 rfl).1
            have dbW01 := (Rows.bc (HR.out.right.right.right.right.right.right.left) 1 rfl).1
            have dbW02 := (Rows.bc (HR.out.right.right.right.right.right.right.left) 2 rfl).1
            have tbW0 := (Rows.bc (HR.out.right.right.right.right.right.right.left) 0 rfl).2
            have da10 := (Rows.bc (HR.out.right.right.right.right.right.right.right.right.left) 0 rfl).1
            have da11 := (Rows.bc (HR.out.right.right.right.right.right.right.right.right.left) 1 rfl).1
            have da12 := (Rows.bc (HR.out.right.right.right.right.right.right.right.right.left) 2 rfl).1
            have ta1 := (Rows.bc (HR.out.right.right.right.right.right.right.right.right.left) 0 rfl).2
            have da00 := (Rows.bc (HR.out.right.right.right.right.right.right.right.right.right) 0 rfl).1
            have da01 := (Rows.bc (HR.out.right.right.right.right.right.right.right.right.right) 1 rfl).1
            have da02 := (Rows.bc (HR.out.right.right.right.right.right.right.right.right.right) 2 rfl).1
            have ta0 := (Rows.bc (HR.out.right.right.right.right.right.right.right.right.right) 0 rfl).2
            refine hK.out _ _ ⟨da00, da01, da02, da10, da11, da12⟩ (fun hS9 => ?_)
            refine wpAnyH_take (i := 5) (oi := ?oi155) (v := ?v155) ?hi155 (by kernel_rfl) ?hf155 ?hr155 ?hQ155 (Or.inl ⟨?hw155, ?hy155⟩) (by assumption) ?rest155
            case hi155 => simp only [List.getElem?_toArray, List.getElem?_cons_succ, List.getElem?_cons_zero]; rfl
            case hf155 => kernel_rfl
            case hr155 => kernel_rfl
            case hw155 => rfl
            case hy155 => (intro w hSw; (try dsimp only at hSw); go_simp; all_goals (first | done | with_reducible rfl))
            case hQ155 => exact fun _ _ _ h => h
            simp only [Act.put, List.setIfInBounds_toArray, List.set_cons_zero, List.set_cons_succ]
            refine wpAnyH_take (i := 6) (oi := ?oi156) (v := ?v156) ?hi156 (by kernel_rfl) ?hf156 ?hr156 ?hQ156 (Or.inl ⟨?hw156, ?hy156⟩) (by assumption) ?rest156
            case hi156 => simp only [List.getElem?_toArray, List.getElem?_cons_succ, List.getElem?_cons_zero]; rfl
            case hf156 => kernel_rfl
            case hr156 => kernel_rfl
            case hw156 => rfl
            case hy156 => (intro w hSw; (try dsimp only at hSw); go_simp; all_goals (first | done | with_reducible rfl))
            case hQ156 => exact fun _ _ _ h => h
            simp only [Act.put, List.setIfInBounds_toArray, List.set_cons_zero, List.set_cons_succ]
            refine wpAnyH_take (i := 7) (oi := ?oi157) (v := ?v157) ?hi157 (by kernel_rfl) ?hf157 ?hr157 ?hQ157 (Or.inl ⟨?hw157, ?hy157⟩) (by assumption) ?rest157
            case hi157 => simp only [List.getElem?_toArray, List.getElem?_cons_succ, List.getElem?_cons_zero]; rfl
            case hf157 => kernel_rfl
            case hr157 => kernel_rfl
            case hw157 => rfl
            case hy157 => (intro w hSw; (try dsimp only at hSw); go_simp; all_goals (first | done | with_reducible rfl))
            case hQ157 => exact fun _ _ _ h => h
            simp only [Act.put, List.setIfInBounds_toArray, List.set_cons_zero, List.set_cons_succ]
            replace HR := hid (HR.out.perm (List.perm_append_comm_assoc _ _ _))
            clear dbh00 dbh01 dbh02 tbh0 dbG00 dbG01 dbG02 tbG0 dbW00 dbW01 dbW02 tbW0 da10 da11 da12 ta1 da00 da01 da02 ta0
            have dbh00 := (Rows.bc (HR.out.left) 0 rfl).1
            have dbh01 := (Rows.bc (HR.out.left) 1 rfl).1
            have dbh02 := (Rows.bc (HR.out.left) 2 rfl).1
            have tbh0 := (Rows.bc (HR.out.left) 0 rfl).2
            have dbG00 := (Rows.bc (HR.out.right.right.right.right.right.left) 0 rfl).1
            have dbG01 := (Rows.bc (HR.out.right.right.right.right.right.left) 1 rfl).1
            have dbG02 := (Rows.bc (HR.out.right.right.right.right.right.left) 2 rfl).1
            have tbG0 := (Rows.bc (HR.out.right.right.right.right.right.left) 0 rfl).2
            have dbW00 := (Rows.bc (HR.out.right.right.right.right.right.right.left) 0 rfl).1
            have dbW01 := (Rows.bc (HR.out.right.right.right.right.right.right.left) 1 rfl).1
            have dbW02 := (Rows.bc (HR.out.right.right.right.right.right.right.left) 2 rfl).1
            have tbW0 := (Rows.bc (HR.out.right.right.right.right.right.right.left) 0 rfl).2
            have da10 := (Rows.bc (HR.out.right.right.right.right.right.right.right.right.left) 0 rfl).1
            have da11 := (Rows.bc (HR.out.right.right.right.right.right.right.right.right.left) 1 rfl).1
            have da12 := (Rows.bc (HR.out.right.right.right.right.right.right.right.right.left) 2 rfl).1
            have ta1 := (Rows.bc (HR.out.right.right.right.right.right.right.right.right.left) 0 rfl).2
            have da00 := (Rows.bc (HR.out.right.right.right.right.right.right.right.right.right) 0 rfl).1
            have da01 := (Rows.bc (HR.out.right.right.right.right.right.right.right.right.right) 1 rfl).1
            have da02 := (Rows.bc (HR.out.right.right.right.right.right.right.right.right.right) 2 rfl).1
            have ta0 := (Rows.bc (HR.out.right.right.right.right.right.right.right.right.right) 0 rfl).2
            have z0f : w68.frozen? ⟨w66.heap.size, 0, none⟩ = false := (Rows.bcell2 (T := 32) (d := 3) (cs := [.slice none 0 0, .slice none 0 0, .int .i64 0]) (pre := []) (q := 0) HR.out rfl).2.1
            have z1f : w68.frozen? ⟨w66.heap.size, 1, none⟩ = false := (Rows.bcell2 (T := 32) (d := 3) (cs := [.slice none 0 0, .slice none 0 0, .int .i64 0]) (pre := []) (q := 1) HR.out rfl).2.1
            have z2f : w68.frozen? ⟨w66.heap.size, 2, none⟩ = false := (Rows.bcell2 (T := 32) (d := 3) (cs := [.slice none 0 0, .slice none 0 0, .int .i64 0]) (pre := []) (q := 2) HR.out rfl).2.1
            refine wpAnyH_ready (rs := [9]) (by kernel_rfl) (by simp) ?_
            refine AllReadyH.cons (o := ?oi158) ?hi158 (fun K hK => ?step158) AllReadyH.nil
            case hi158 => simp only [List.getElem?_toArray, List.getElem?_cons_succ, List.getElem?_cons_zero]; rfl
            rw [if_pos (by rfl)]
            go_simp
            refine hK.out _ _ ⟨((World.cell?_setCell_far _ _ _ _ ne_a0).trans ((World.cell?_setCell_far _ _ _ _ ne_a0).trans ((World.cell?_setCell_far _ _ _ _ ne_a0).trans da00))), ((World.cell?_setCell_far _ _ _ _ ne_a0).trans ((World.cell?_setCell_far _ _ _ _ ne_a0).trans ((World.cell?_setCell_far _ _ _ _ ne_a0).trans da01))), ((World.cell?_setCell_far _ _ _ _ ne_a0).trans ((World.cell?_setCell_far _ _ _ _ ne_a0).trans ((World.cell?_setCell_far _ _ _ _ ne_a0).trans da02))), ((World.cell?_setCell_far _ _ _ _ ne_a1).trans ((World.cell?_setCell_far _ _ _ _ ne_a1).trans ((World.cell?_setCell_far _ _ _ _ ne_a1).trans da10))), ((World.cell?_setCell_far _ _ _ _ ne_a1).trans ((World.cell?_setCell_far _ _ _ _ ne_a1).trans ((World.cell?_setCell_far _ _ _ _ ne_a1).trans da11))), ((World.cell?_setCell_far _ _ _ _ ne_a1).trans ((World.cell?_setCell_far _ _ _ _ ne_a1).trans ((World.cell?_setCell_far _ _ _ _ ne_a1).trans da12)))⟩ (fun hS9 => ?_)
            refine wpAnyH_take (i := 10) (oi := ?oi159) (v := ?v159) ?hi159 (by kernel_rfl) ?hf159 ?hr159 ?hQ159 (Or.inl ⟨?hw159, ?hy159⟩) (by assumption) ?rest159
            case hi159 => simp only [List.getElem?_toArray, List.getElem?_cons_succ, List.getElem?_cons_zero]; rfl
            case hf159 => kernel_rfl
            case hr159 => kernel_rfl
            case hw159 => rfl
            case hy159 => (intro w hSw; (try dsimp only at hSw); go_simp; all_goals (first | done | with_reducible rfl))
            case hQ159 => exact fun _ _ _ h => h
            simp only [Act.put, List.setIfInBounds_toArray, List.set_cons_zero, List.set_cons_succ]
            refine wpAnyH_done (by kernel_rfl) ?_ _
            replace HR := hid (Rows.boxset (T := 32) (d := 3) (cs := [.slice none 0 0, .slice none 0 0, .int .i64 0]) (pre := []) (j := 0) (u := .slice fh00 fh01 fh02) HR.out)
            replace HR := hid (Rows.boxset (T := 32) (d := 3) (cs := [.slice fh00 fh01 fh02, .slice none 0 0, .int .i64 0]) (pre := []) (j := 1) (u := .slice fh03 fh04 fh05) HR.out)
            replace HR := hid (Rows.boxset (T := 32) (d := 3) (cs := [.slice fh00 fh01 fh02, .slice fh03 fh04 fh05, .int .i64 0]) (pre := []) (j := 2) (u := .int .i64 X0.2.2) HR.out)
            replace HB := hid (((HB.out.setCell (p := ⟨_, 0, none⟩) nle (.slice fh00 fh01 fh02)).setCell (p := ⟨_, 1, none⟩) nle (.slice fh03 fh04 fh05)).setCell (p := ⟨_, 2, none⟩) nle (.int .i64 X0.2.2))
            go_wp2_with fail
            go_meet
            case rel => exact ⟨_, _, _, _, _, _, _, _, _, _, _, _, rfl, rfl, Sh0.out, Sz1.out, Sz0.out, HR.out, HB.out⟩
        · have ne_a0 : w65.heap.size ≠ w.heap.size := Nat.ne_of_gt ta0
          have ne_a1 : w65.heap.size ≠ w.heap.size + 1 := Nat.ne_of_gt ta1
          have nle : w.heap.size ≤ w65.heap.size := HB.out.size
          have hb : Below w65.heap.size w65 (w65.alloc (.cells #[.slice none 0 0, .slice none 0 0, .int .i64 0] 32)) := (Below.refl _ _).alloc (Nat.le_refl _) _
          have hr := Rows.box w65 #[.slice none 0 0, .slice none 0 0, .int .i64 0] 32 3 rfl
          replace HR := hid (HR.out.newer hb hr HB.out.size)
          replace HB := hid (HB.out.trans (hb.mono HB.out.size))
          clear hb hr
          clear dbG00 dbG01 dbG02 tbG0 dbW00 dbW01 dbW02 tbW0 da10 da11 da12 ta1 da00 da01 da02 ta0
          have dbh00 := (Rows.bc (HR.out.left) 0 rfl).1
          have dbh01 := (Rows.bc (HR.out.left) 1 rfl).1
          have dbh02 := (Rows.bc (HR.out.left) 2 rfl).1
          have tbh0 := (Rows.bc (HR.out.left) 0 rfl).2
          have dbG00 := (Rows.bc (HR.out.right.right.right.left) 0 rfl).1
          have dbG01 := (Rows.bc (HR.out.right.right.right.left) 1 rfl).1
          have dbG02 := (Rows.bc (HR.out.right.right.right.left) 2 rfl).1
          have tbG0 := (Rows.bc (HR.out.right.right.right.left) 0 rfl).2
          have dbW00 := (Rows.bc (HR.out.right.right.right.right.left) 0 rfl).1
          have dbW01 := (Rows.bc (HR.out.right.right.right.right.left) 1 rfl).1
          have dbW02 := (Rows.bc (HR.out.right.right.right.right.left) 2 rfl).1
          have tbW0 := (Rows.bc (HR.out.right.right.right.right.left) 0 rfl).2
          have da10 := (Rows.bc (HR.out.right.right.right.right.right.right.left) 0 rfl).1
          have da11 := (Rows.bc (HR.out.right.right.right.right.right.right.left) 1 rfl).1
          have da12 := (Rows.bc (HR.out.right.right.right.right.right.right.left) 2 rfl).1
          have ta1 := (Rows.bc (HR.out.right.right.right.right.right.right.left) 0 rfl).2
          have da00 := (Rows.bc (HR.out.right.right.right.right.right.right.right) 0 rfl).1
          have da01 := (Rows.bc (HR.out.right.right.right.right.right.right.right) 1 rfl).1
          have da02 := (Rows.bc (HR.out.right.right.right.right.right.right.right) 2 rfl).1
          have ta0 := (Rows.bc (HR.out.right.right.right.right.right.right.right) 0 rfl).2
          refine hK.out _ _ ⟨da00, da01, da02, da10, da11, da12⟩ (fun hS9 => ?_)
          clear dbh00 dbh01 dbh02 tbh0 dbG00 dbG01 dbG02 tbG0 dbW00 dbW01 dbW02 tbW0 da10 da11 da12 ta1 da00 da01 da02 ta0
          generalize (w65.alloc (.cells #[.slice none 0 0, .slice none 0 0, .int .i64 0] 32)) = w66 at *
          have dbh00 := (Rows.bc (HR.out.left) 0 rfl).1
          have dbh01 := (Rows.bc (HR.out.left) 1 rfl).1
          have dbh02 := (Rows.bc (HR.out.left) 2 rfl).1
          have tbh0 := (Rows.bc (HR.out.left) 0 rfl).2
          have dbG00 := (Rows.bc (HR.out.right.right.right.left) 0 rfl).1
          have dbG01 := (Rows.bc (HR.out.right.right.right.left) 1 rfl).1
          have dbG02 := (Rows.bc (HR.out.right.right.right.left) 2 rfl).1
          have tbG0 := (Rows.bc (HR.out.right.right.right.left) 0 rfl).2
          have dbW00 := (Rows.bc (HR.out.right.right.right.right.left) 0 rfl).1
          have dbW01 := (Rows.bc (HR.out.right.right.right.right.left) 1 rfl).1
          have dbW02 := (Rows.bc (HR.out.right.right.right.right.left) 2 rfl).1
          have tbW0 := (Rows.bc (HR.out.right.right.right.right.left) 0 rfl).2
          have da10 := (Rows.bc (HR.out.right.right.right.right.right.right.left) 0 rfl).1
          have da11 := (Rows.bc (HR.out.right.right.right.right.right.right.left) 1 rfl).1
          have da12 := (Rows.bc (HR.out.right.right.right.right.right.right.left) 2 rfl).1
          have ta1 := (Rows.bc (HR.out.right.right.right.right.right.right.left) 0 rfl).2
          have da00 := (Rows.bc (HR.out.right.right.right.right.right.right.right) 0 rfl).1
          have da01 := (Rows.bc (HR.out.right.right.right.right.right.right.right) 1 rfl).1
          have da02 := (Rows.bc (HR.out.right.right.right.right.right.right.right) 2 rfl).1
          have ta0 := (Rows.bc (HR.out.right.right.right.right.right.right.right) 0 rfl).2
          refine wpAnyH_ready (rs := [3]) (by kernel_rfl) (by simp) ?_
          refine AllReadyH.cons (o := ?oi160) ?hi160 (fun K hK => ?step160) AllReadyH.nil
          case hi160 => simp only [List.getElem?_toArray, List.getElem?_cons_succ, List.getElem?_cons_zero]; rfl
          rw [if_pos (by rfl)]
          go_simp
          go_at_call 24
          refine (toHandlerY_c A1 n1 c1 d1 w.heap.size _ (T1.out.below HB.out (Nat.le_refl _)) HB.out.size F1.out).mono ?_
          rintro e w67 ⟨v, rsz1, rfl, hs, hr, hb⟩
          obtain ⟨fz10, fz11, fz12, rfl⟩ := hs.form hr
          have Sz1 := hid hs
          clear hs
          replace HR := hid (HR.out.newer hb hr HB.out.size)
          replace HB := hid (HB.out.trans (hb.mono HB.out.size))
          clear hb hr
          clear dbh00 dbh01 dbh02 tbh0 dbG00 dbG01 dbG02 tbG0 dbW00 dbW01 dbW02 tbW0 da10 da11 da12 ta1 da00 da01 da02 ta0
          have dbh00 := (Rows.bc (HR.out.right.left) 0 rfl).1
          have dbh01 := (Rows.bc (HR.out.right.left) 1 rfl).1
          have dbh02 := (Rows.bc (HR.out.right.left) 2 rfl).1
          have tbh0 := (Rows.bc (HR.out.right.left) 0 rfl).2
          have dbG00 := (Rows.bc (HR.out.right.right.right.right.left) 0 rfl).1
          have dbG01 := (Rows.bc (HR.out.right.right.right.right.left) 1 rfl).1
          have dbG02 := (Rows.bc (HR.out.right.right.right.right.left) 2 rfl).1
          have tbG0 := (Rows.bc (HR.out.right.right.right.right.left) 0 rfl).2
          have dbW00 := (Rows.bc (HR.out.right.right.right.right.right.left) 0 rfl).1
          have dbW01 := (Rows.bc (HR.out.right.right.right.right.right.left) 1 rfl).1
          have dbW02 := (Rows.bc (HR.out.right.right.right.right.right.left) 2 rfl).1
          have tbW0 := (Rows.bc (HR.out.right.right.right.right.right.left) 0 rfl).2
          have da10 := (Rows.bc (HR.out.right.right.right.right.right.right.right.left) 0 rfl).1
          have da11 := (Rows.bc (HR.out.right.right.right.right.right.right.right.left) 1 rfl).1
          have da12 := (Rows.bc (HR.out.right.right.right.right.right.right.right.left) 2 rfl).1
          have ta1 := (Rows.bc (HR.out.right.right.right.right.right.right.right.left) 0 rfl).2
          have da00 := (Rows.bc (HR.out.right.right.right.right.right.right.right.right) 0 rfl).1
          have da01 := (Rows.bc (HR.out.right.right.right.right.right.right.right.right) 1 rfl).1
          have da02 := (Rows.bc (HR.out.right.right.right.right.right.right.right.right) 2 rfl).1
          have ta0 := (Rows.bc (HR.out.right.right.right.right.right.right.right.right) 0 rfl).2
          refine hK.out _ _ ⟨da00, da01, da02, da10, da11, da12⟩ (fun hS9 => ?_)
          refine wpAnyH_ready (rs := [4]) (by kernel_rfl) (by simp) ?_
          refine AllReadyH.cons (o := ?oi161) ?hi161 (fun K hK => ?step161) AllReadyH.nil
          case hi161 => simp only [List.getElem?_toArray, List.getElem?_cons_succ, List.getElem?_cons_zero]; rfl
          rw [if_pos (by rfl)]
          go_simp
          go_at_call 25
          refine (cI.out _ _ (Sz0.out.at_ (HR.out.right.right.left) F0.out) _ (Sz1.out.at_ (HR.out.left) F1.out)).mono ?_
          rintro e w68 ⟨v0, rsh0, rfl, hs0, hr, hb⟩
          obtain ⟨fh00, fh01, fh02, fh03, fh04, fh05, rfl⟩ := hs0.form hr
          have Sh0 := hid hs0
          clear hs0
          replace HR := hid (HR.out.newer hb hr HB.out.size)
          replace HB := hid (HB.out.trans (hb.mono HB.out.size))
          clear hb hr
          clear dbh00 dbh01 dbh02 tbh0 dbG00 dbG01 dbG02 tbG0 dbW00 dbW01 dbW02 tbW0 da10 da11 da12 ta1 da00 da01 da02 ta0
          have dbh00 := (Rows.bc (HR.out.right.right.left) 0 rfl).1
          have dbh01 := (Rows.bc (HR.out.right.right.left) 1 rfl).1
          have dbh02 := (Rows.bc (HR.out.right.right.left) 2 rfl).1
          have tbh0 := (Rows.bc (HR.out.right.right.left) 0 rfl).2
          have dbG00 := (Rows.bc (HR.out.right.right.right.right.right.left) 0 rfl).1
          have dbG01 := (Rows.bc (HR.out.right.right.right.right.right.left) 1 rfl).1
          have dbG02 := (Rows.bc (HR.out.right.right.right.right.right.left) 2 rfl).1
          have tbG0 := (Rows.bc (HR.out.right.right.right.right.right.left) 0 rfl).2
          have dbW00 := (Rows.bc (HR.out.right.right.right.right.right.right.left) 0 rfl).1
          have dbW01 := (Rows.bc (HR.out.right.right.right.right.right.right.left) 1 rfl).1
          have dbW02 := (Rows.bc (HR.out.right.right.right.right.right.right.left) 2 rfl).1
          have tbW0 := (Rows.bc (HR.out.right.right.right.right.right.right.left) 0 rfl).2
          have da10 := (Rows.bc (HR.out.right.right.right.right.right.right.right.right.left) 0 rfl).1
          have da11 := (Rows.bc (HR.out.right.right.right.right.right.right.right.right.left) 1 rfl).1
          have da12 := (Rows.bc (HR.out.right.right.right.right.right.right.right.right.left) 2 rfl).1
          have ta1 := (Rows.bc (HR.out.right.right.right.right.right.right.right.right.left) 0 rfl).2
          have da00 := (Rows.bc (HR.out.right.right.right.right.right.right.right.right.right) 0 rfl).1
          have da01 := (Rows.bc (HR.out.right.right.right.right.right.right.right.right.right) 1 rfl).1
          have da02 := (Rows.bc (HR.out.right.right.right.right.right.right.right.right.right) 2 rfl).1
          have ta0 := (Rows.bc (HR.out.right.right.right.right.right.right.right.right.right) 0 rfl).2
          refine hK.out _ _ ⟨da00, da01, da02, da10, da11, da12⟩ (fun hS9 => ?_)
          refine wpAnyH_take (i := 5) (oi := ?oi162) (v := ?v162) ?hi162 (by kernel_rfl) ?hf162 ?hr162 ?hQ162 (Or.inl ⟨?hw162, ?hy162⟩) (by assumption) ?rest162
          case hi162 => simp only [List.getElem?_toArray, List.getElem?_cons_succ, List.getElem?_cons_zero]; rfl
          case hf162 => kernel_rfl
          case hr162 => kernel_rfl
          case hw162 => rfl
          case hy162 => (intro w hSw; (try dsimp only at hSw); go_simp; all_goals (first | done | with_reducible rfl))
          case hQ162 => exact fun _ _ _ h => h
          simp only [Act.put, List.setIfInBounds_toArray, List.set_cons_zero, List.set_cons_succ]
          refine wpAnyH_take (i := 6) (oi := ?oi163) (v := ?v163) ?hi163 (by kernel_rfl) ?hf163 ?hr163 ?hQ163 (Or.inl ⟨?hw163, ?hy163⟩) (by assumption) ?rest163
          case hi163 => simp only [List.getElem?_toArray, List.getElem?_cons_succ, List.getElem?_cons_zero]; rfl
          case hf163 => kernel_rfl
          case hr163 => kernel_rfl
          case hw163 => rfl
          case hy163 => (intro w hSw; (try dsimp only at hSw); go_simp; all_goals (first | done | with_reducible rfl))
          case hQ163 => exact fun _ _ _ h => h
          simp only [Act.put, List.setIfInBounds_toArray, List.set_cons_zero, List.set_cons_succ]
          refine wpAnyH_take (i := 7) (oi := ?oi164) (v := ?v164) ?hi164 (by kernel_rfl) ?hf164 ?hr164 ?hQ164 (Or.inl ⟨?hw164, ?hy164⟩) (by assumption) ?rest164
          case hi164 => simp only [List.getElem?_toArray, List.getElem?_cons_succ, List.getElem?_cons_zero]; rfl
          case hf164 => kernel_rfl
          case hr164 => kernel_rfl
          case hw164 => rfl
          case hy164 => (intro w hSw; (try dsimp only at hSw); go_simp; all_goals (first | done | with_reducible rfl))
          case hQ164 => exact fun _ _ _ h => h
          simp only [Act.put, List.setIfInBounds_toArray, List.set_cons_zero, List.set_cons_succ]
          replace HR := hid (HR.out.perm (((List.perm_append_comm_assoc _ _ _).append_left _).trans (List.perm_append_comm_assoc _ _ _)))
          clear dbh00 dbh01 dbh02 tbh0 dbG00 dbG01 dbG02 tbG0 dbW00 dbW01 dbW02 tbW0 da10 da11 da12 ta1 da00 da01 da02 ta0
          have dbh00 := (Rows.bc (HR.out.left) 0 rfl).1
          have dbh01 := (Rows.bc (HR.out.left) 1 rfl).1
          have dbh02 := (Rows.bc (HR.out.left) 2 rfl).1
          have tbh0 := (Rows.bc (HR.out.left) 0 rfl).2
          have dbG00 := (Rows.bc (HR.out.right.right.right.right.right.left) 0 rfl).1
          have dbG01 := (Rows.bc (HR.out.right.right.right.right.right.left) 1 rfl).1
          have dbG02 := (Rows.bc (HR.out.right.right.right.right.right.left) 2 rfl).1
          have tbG0 := (Rows.bc (HR.out.right.right.right.right.right.left) 0 rfl).2
          have dbW00 := (Rows.bc (HR.out.right.right.right.right.right.right.left) 0 rfl).1
          have dbW01 := (Rows.bc (HR.out.right.right.right.right.right.right.left) 1 rfl).1
          have dbW02 := (Rows.bc (HR.out.right.right.right.right.right.right.left) 2 rfl).1
          have tbW0 := (Rows.bc (HR.out.right.right.right.right.right.right.left) 0 rfl).2
          have da10 := (Rows.bc (HR.out.right.right.right.right.right.right.right.right.left) 0 rfl).1
          have da11 := (Rows.bc (HR.out.right.right.right.right.right.right.right.right.left) 1 rfl).1
          have da12 := (Rows.bc (HR.out.right.right.right.right.right.right.right.right.left) 2 rfl).1
          have ta1 := (Rows.bc (HR.out.right.right.right.right.right.right.right.right.left) 0 rfl).2
          have da00 := (Rows.bc (HR.out.right.right.right.right.right.right.right.right.right) 0 rfl).1
          have da01 := (Rows.bc (HR.out.right.right.right.right.right.right.right.right.right) 1 rfl).1
          have da02 := (Rows.bc (HR.out.right.right.right.right.right.right.right.right.right) 2 rfl).1
          have ta0 := (Rows.bc (HR.out.right.right.right.right.right.right.right.right.right) 0 rfl).2
          have z0f : w68.frozen? ⟨w65.heap.size, 0, none⟩ = false := (Rows.bcell2 (T := 32) (d := 3) (cs := [.slice none 0 0, .slice none 0 0, .int .i64 0]) (pre := []) (q := 0) HR.out rfl).2.1
          have z1f : w68.frozen? ⟨w65.heap.size, 1, none⟩ = false := (Rows.bcell2 (T := 32) (d := 3) (cs := [.slice none 0 0, .slice none 0 0, .int .i64 0]) (pre := []) (q := 1) HR.out rfl).2.1
          have z2f : w68.frozen? ⟨w65.heap.size, 2, none⟩ = false := (Rows.bcell2 (T := 32) (d := 3) (cs := [.slice none 0 0, .slice none 0 0, .int .i64 0]) (pre := []) (q := 2) HR.out rfl).2.1
          refine wpAnyH_ready (rs := [9]) (by kernel_rfl) (by simp) ?_
          refine AllReadyH.cons (o := ?oi165) ?hi165 (fun K hK => ?step165) AllReadyH.nil
          case hi165 => simp only [List.getElem?_toArray, List.getElem?_cons_succ, List.getElem?_cons_zero]; rfl
          rw [if_pos (by rfl)]
          go_simp
          refine hK.out _ _ ⟨((World.cell?_setCell_far _ _ _ _ ne_a0).trans ((World.cell?_setCell_far _ _ _ _ ne_a0).trans ((World.cell?_setCell_far _ _ _ _ ne_a0).trans da00))), ((World.cell?_setCell_far _ _ _ _ ne_a0).trans ((World.cell?_setCell_far _ _ _ _ ne_a0).trans ((World.cell?_setCell_far _ _ _ _ ne_a0).trans da01))), ((World.cell?_setCell_far _ _ _ _ ne_a0).trans ((World.cell?_setCell_far _ _ _ _ ne_a0).trans ((World.cell?_setCell_far _ _ _ _ ne_a0).trans da02))), ((World.cell?_setCell_far _ _ _ _ ne_a1).trans ((World.cell?_setCell_far _ _ _ _ ne_a1).trans ((World.cell?_setCell_far _ _ _ _ ne_a1).trans da10))), ((World.cell?_setCell_far _ _ _ _ ne_a1).trans ((World.cell?_setCell_far _ _ _ _ ne_a1).trans ((World.cell?_setCell_far _ _ _ _ ne_a1).trans da11))), ((World.cell?_setCell_far _ _ _ _ ne_a1).trans ((World.cell?_setCell_far _ _ _ _ ne_a1).trans ((World.cell?_setCell_far _ _ _ _ ne_a1).trans da12)))⟩ (fun hS9 => ?_)
          refine wpAnyH_take (i := 10) (oi := ?oi166) (v := ?v166) ?hi166 (by kernel_rfl) ?hf166 ?hr166 ?hQ166 (Or.inl ⟨?hw166, ?hy166⟩) (by assumption) ?rest166
          case hi166 => simp only [List.getElem?_toArray, List.getElem?_cons_succ, List.getElem?_cons_zero]; rfl
          case hf166 => kernel_rfl
          case hr166 => kernel_rfl
          case hw166 => rfl
          case hy166 => (intro w hSw; (try dsimp only at hSw); go_simp; all_goals (first | done | with_reducible rfl))
          case hQ166 => exact fun _ _ _ h => h
          simp only [Act.put, List.setIfInBounds_toArray, List.set_cons_zero, List.set_cons_succ]
          refine wpAnyH_done (by kernel_rfl) ?_ _
          replace HR := hid (Rows.boxset (T := 32) (d := 3) (cs := [.slice none 0 0, .slice none 0 0, .int .i64 0]) (pre := []) (j := 0) (u := .slice fh00 fh01 fh02) HR.out)
          replace HR := hid (Rows.boxset (T := 32) (d := 3) (cs := [.slice fh00 fh01 fh02, .slice none 0 0, .int .i64 0]) (pre := []) (j := 1) (u := .slice fh03 fh04 fh05) HR.out)
          replace HR := hid (Rows.boxset (T := 32) (d := 3) (cs := [.slice fh00 fh01 fh02, .slice fh03 fh04 fh05, .int .i64 0]) (pre := []) (j := 2) (u := .int .i64 X0.2.2) HR.out)
          replace HB := hid (((HB.out.setCell (p := ⟨_, 0, none⟩) nle (.slice fh00 fh01 fh02)).setCell (p := ⟨_, 1, none⟩) nle (.slice fh03 fh04 fh05)).setCell (p := ⟨_, 2, none⟩) nle (.int .i64 X0.2.2))
          go_wp2_with fail
          go_meet
          case rel => exact ⟨_, _, _, _, _, _, _, _, _, _, _, _, rfl, rfl, Sh0.out, Sz1.out, Sz0.out, HR.out, HB.out⟩
      · have ne_a0 : w64.heap.size ≠ w.heap.size := Nat.ne_of_gt ta0
        have ne_a1 : w64.heap.size ≠ w.heap.size + 1 := Nat.ne_of_gt ta1
        have nle : w.heap.size ≤ w64.heap.size := HB.out.size
        have hb : Below w64.heap.size w64 (w64.alloc (.cells #[.slice none 0 0, .slice none 0 0, .int .i64 0] 32)) := (Below.refl _ _).alloc (Nat.le_refl _) _
        have hr := Rows.box w64 #[.slice none 0 0, .slice none 0 0, .int .i64 0] 32 3 rfl
        replace HR := hid (HR.out.newer hb hr HB.out.size)
        replace HB := hid (HB.out.trans (hb.mono HB.out.size))
        clear hb hr
        clear dbG00 dbG01 dbG02 tbG0 dbW00 dbW01 dbW02 tbW0 da10 da11 da12 ta1 da00 da01 da02 ta0
        have dbh00 := (Rows.bc (HR.out.left) 0 rfl).1
        have dbh01 := (Rows.bc (HR.out.left) 1 rfl).1
        have dbh02 := (Rows.bc (HR.out.left) 2 rfl).1
        have tbh0 := (Rows.bc (HR.out.left) 0 rfl).2
        have dbG00 := (Rows.bc (HR.out.right.right.left) 0 rfl).1
        have dbG01 := (Rows.bc (HR.out.right.right.left) 1 rfl).1
        have dbG02 := (Rows.bc (HR.out.right.right.left) 2 rfl).1
        have tbG0 := (Rows.bc (HR.out.right.right.left) 0 rfl).2
        have dbW00 := (Rows.bc (HR.out.right.right.right.left) 0 rfl).1
        have dbW01 := (Rows.bc (HR.out.right.right.right.left) 1 rfl).1
        have dbW02 := (Rows.bc (HR.out.right.right.right.left) 2 rfl).1
        have tbW0 := (Rows.bc (HR.out.right.right.right.left) 0 rfl).2
        have da10 := (Rows.bc (HR.out.right.right.right.right.right.left) 0 rfl).1
        have da11 := (Rows.bc (HR.out.right.right.right.right.right.left) 1 rfl).1
        have da12 := (Rows.bc (HR.out.right.right.right.right.right.left) 2 rfl).1
        have ta1 := (Rows.bc (HR.out.right.right.right.right.right.left) 0 rfl).2
        have da00 := (Rows.bc (HR.out.right.right.right.right.right.right) 0 rfl).1
        have da01 := (Rows.bc (HR.out.right.right.right.right.right.right) 1 rfl).1
        have da02 := (Rows.bc (HR.out.right.right.right.right.right.right) 2 rfl).1
        have ta0 := (Rows.bc (HR.out.right.right.right.right.right.right) 0 rfl).2
        refine hK.out _ _ ⟨da00, da01, da02, da10, da11, da12⟩ (fun hS9 => ?_)
        clear dbh00 dbh01 dbh02 tbh0 dbG00 dbG01 dbG02 tbG0 dbW00 dbW01 dbW02 tbW0 da10 da11 da12 ta1 da00 da01 da02 ta0
        generalize (w64.alloc (.cells #[.slice none 0 0, .slice none 0 0, .int .i64 0] 32)) = w65 at *
        have dbh00 := (Rows.bc (HR.out.left) 0 rfl).1
        have dbh01 := (Rows.bc (HR.out.left) 1 rfl).1
        have dbh02 := (Rows.bc (HR.out.left) 2 rfl).1
        have tbh0 := (Rows.bc (HR.out.left) 0 rfl).2
        have dbG00 := (Rows.bc (HR.out.right.right.left) 0 rfl).1
        have dbG01 := (Rows.bc (HR.out.right.right.left) 1 rfl).1
        have dbG02 := (Rows.bc (HR.out.right.right.left) 2 rfl).1
        have tbG0 := (Rows.bc (HR.out.right.right.left) 0 rfl).2
        have dbW00 := (Rows.bc (HR.out.right.right.right.left) 0 rfl).1
        have dbW01 := (Rows.bc (HR.out.right.right.right.left) 1 rfl).1
        have dbW02 := (Rows.bc (HR.out.right.right.right.left) 2 rfl).1
        have tbW0 := (Rows.bc (HR.out.right.right.right.left) 0 rfl).2
        have da10 := (Rows.bc (HR.out.right.right.right.right.right.left) 0 rfl).1
        have da11 := (Rows.bc (HR.out.right.right.right.right.right.left) 1 rfl).1
        have da12 := (Rows.bc (HR.out.right.right.right.right.right.left) 2 rfl).1
        have ta1 := (Rows.bc (HR.out.right.right.right.right.right.left) 0 rfl).2
        have da00 := (Rows.bc (HR.out.right.right.right.right.right.right) 0 rfl).1
        have da01 := (Rows.bc (HR.out.right.right.right.right.right.right) 1 rfl).1
        have da02 := (Rows.bc (HR.out.right.right.right.right.right.right) 2 rfl).1
        have ta0 := (Rows.bc (HR.out.right.right.right.right.right.right) 0 rfl).2
        refine wpAnyH_ready (rs := [1]) (by kernel_rfl) (by simp) ?_
        refine AllReadyH.cons (o := ?oi167) ?hi167 (fun K hK => ?step167) AllReadyH.nil
        case hi167 => simp only [List.getElem?_toArray, List.getElem?_cons_succ, List.getElem?_cons_zero]; rfl
        rw [if_pos (by rfl)]
        go_simp
        go_at_call 13
        refine (toTreY_c Aa0 na0 ca0 Ab0 nb0 cb0 d0 w.heap.size _ (T0.out.below HB.out (Nat.le_refl _)) HB.out.size F0.out).mono ?_
        rintro e w66 ⟨v, rsz0, rfl, hs, hr, hb⟩
        obtain ⟨fz00, fz01, fz02, fz03, fz04, fz05, rfl⟩ := hs.form hr
        have Sz0 := hid hs
        clear hs
        replace HR := hid (HR.out.newer hb hr HB.out.size)
        replace HB := hid (HB.out.trans (hb.mono HB.out.size))
        clear hb hr
        clear dbh00 dbh01 dbh02 tbh0 dbG00 dbG01 dbG02 tbG0 dbW00 dbW01 dbW02 tbW0 da10 da11 da12 ta1 da00 da01 da02 ta0
        have dbh00 := (Rows.bc (HR.out.right.left) 0 rfl).1
        have dbh01 := (Rows.bc (HR.out.right.left) 1 rfl).1
        have dbh02 := (Rows.bc (HR.out.right.left) 2 rfl).1
        have tbh0 := (Rows.bc (HR.out.right.left) 0 rfl).2
        have dbG00 := (Rows.bc (HR.out.right.right.right.left) 0 rfl).1
        have dbG01 := (Rows.bc (HR.out.right.right.right.left) 1 rfl).1
        have dbG02 := (Rows.bc (HR.out.right.right.right.left) 2 rfl).1
        have tbG0 := (Rows.bc (HR.out.right.right.right.left) 0 rfl).2
        have dbW00 := (Rows.bc (HR.out.right.right.right.right.left) 0 rfl).1
        have dbW01 := (Rows.bc (HR.out.right.right.right.right.left) 1 rfl).1
        have dbW02 := (Rows.bc (HR.out.right.right.right.right.left) 2 rfl).1
        have tbW0 := (Rows.bc (HR.out.right.right.right.right.left) 0 rfl).2
        have da10 := (Rows.bc (HR.out.right.right.right.right.right.right.left) 0 rfl).1
        have da11 := (Rows.bc (HR.out.right.right.right.right.right.right.left) 1 rfl).1
        have da12 := (Rows.bc (HR.out.right.right.right.right.right.right.left) 2 rfl).1
        have ta1 := (Rows.bc (HR.out.right.right.right.right.right.right.left) 0 rfl).2
        have da00 := (Rows.bc (HR.out.right.right.right.right.right.right.right) 0 rfl).1
        have da01 := (Rows.bc (HR.out.right.right.right.right.right.right.right) 1 rfl).1
        have da02 := (Rows.bc (HR.out.right.right.right.right.right.right.right) 2 rfl).1
        have ta0 := (Rows.bc (HR.out.right.right.right.right.right.right.right) 0 rfl).2
        refine hK.out _ _ ⟨da00, da01, da02, da10, da11, da12⟩ (fun hS9 => ?_)
        refine wpAnyH_ready (rs := [3]) (by kernel_rfl) (by simp) ?_
        refine AllReadyH.cons (o := ?oi168) ?hi168 (fun K hK => ?step168) AllReadyH.nil
        case hi168 => simp only [List.getElem?_toArray, List.getElem?_cons_succ, List.getElem?_cons_zero]; rfl
        rw [if_pos (by rfl)]
        go_simp
        go_at_call 24
        refine (toHandlerY_c A1 n1 c1 d1 w.heap.size _ (T1.out.below HB.out (Nat.le_refl _)) HB.out.size F1.out).mono ?_
        rintro e w67 ⟨v, rsz1, rfl, hs, hr, hb⟩
        obtain ⟨fz10, fz11, fz12, rfl⟩ := hs.form hr
        have Sz1 := hid hs
        clear hs
        replace HR := hid (HR.out.newer hb hr HB.out.size)
        replace HB := hid (HB.out.trans (hb.mono HB.out.size))
        clear hb hr
        clear dbh00 dbh01 dbh02 tbh0 dbG00 dbG01 dbG02 tbG0 dbW00 dbW01 dbW02 tbW0 da10 da11 da12 ta1 da00 da01 da02 ta0
        have dbh00 := (Rows.bc (HR.out.right.right.left) 0 rfl).1
        have dbh01 := (Rows.bc (HR.out.right.right.left) 1 rfl).1
        have dbh02 := (Rows.bc (HR.out.right.right.left) 2 rfl).1
        have tbh0 := (Rows.bc (HR.out.right.right.left) 0 rfl).2
        have dbG00 := (Rows.bc (HR.out.right.right.right.right.left) 0 rfl).1
        have dbG01 := (Rows.bc (HR.out.right.right.right.right.left) 1 rfl).1
        have dbG02 := (Rows.bc (HR.out.right.right.right.right.left) 2 rfl).1
        have tbG0 := (Rows.bc (HR.out.right.right.right.right.left) 0 rfl).2
        have dbW00 := (Rows.bc (HR.out.right.right.right.right.right.left) 0 rfl).1
        have dbW01 := (Rows.bc (HR.out.right.right.right.right.right.left) 1 rfl).1
        have dbW02 := (Rows.bc (HR.out.right.right.right.right.right.left) 2 rfl).1
        have tbW0 := (Rows.bc (HR.out.right.right.right.right.right.left) 0 rfl).2
        have da10 := (Rows.bc (HR.out.right.right.right.right.right.right.right.left) 0 rfl).1
        have da11 := (Rows.bc (HR.out.right.right.right.right.right.right.right.left) 1 rfl).1
        have da12 := (Rows.bc (HR.out.right.right.right.right.right.right.right.left) 2 rfl).1
        have ta1 := (Rows.bc (HR.out.right.right.right.right.right.right.right.left) 0 rfl).2
        have da00 := (Rows.bc (HR.out.right.right.right.right.right.right.right.right) 0 rfl).1
        have da01 := (Rows.bc (HR.out.right.right.right.right.right.right.right.right) 1 rfl).1
        have da02 := (Rows.bc (HR.out.right.right.right.right.right.right.right.right) 2 rfl).1
        have ta0 := (Rows.bc (HR.out.right.right.right.right.right.right.right.right) 0 rfl).2
        refine hK.out _ _ ⟨da00, da01, da02, da10, da11, da12⟩ (fun hS9 => ?_)
        refine wpAnyH_ready (rs := [4]) (by kernel_rfl) (by simp) ?_
        refine AllReadyH.cons (o := ?oi169) ?hi169 (fun K hK => ?step169) AllReadyH.nil
        case hi169 => simp only [List.getElem?_toArray, List.getElem?_cons_succ, List.getElem?_cons_zero]; rfl
        rw [if_pos (by rfl)]
        go_simp
        go_at_call 25
        refine (cI.out _ _ (Sz0.out.at_ (HR.out.right.left) F0.out) _ (Sz1.out.at_ (HR.out.left) F1.out)).mono ?_
        rintro e w68 ⟨v0, rsh0, rfl, hs0, hr, hb⟩
        obtain ⟨fh00, fh01, fh02, fh03, fh04, fh05, rfl⟩ := hs0.form hr
        have Sh0 := hid hs0
        clear hs0
        replace HR := hid (HR.out.newer hb hr HB.out.size)
        replace HB := hid (HB.out.trans (hb.mono HB.out.size))
        clear hb hr
        clear dbh00 dbh01 dbh02 tbh0 dbG00 dbG01 dbG02 tbG0 dbW00 dbW01 dbW02 tbW0 da10 da11 da12 ta1 da00 da01 da02 ta0
        have dbh00 := (Rows.bc (HR.out.right.right.right.left) 0 rfl).1
        have dbh01 := (Rows.bc (HR.out.right.right.right.left) 1 rfl).1
        have dbh02 := (Rows.bc (HR.out.right.right.right.left) 2 rfl).1
        have tbh0 := (Rows.bc (HR.out.right.right.right.left) 0 rfl).2
        have dbG00 := (Rows.bc (HR.out.right.right.right.right.right.left) 0 rfl).1
        have dbG01 := (Rows.bc (HR.out.right.right.right.right.right.left) 1 rfl).1
        have dbG02 := (Rows.bc (HR.out.right.right.right.right.right.left) 2 rfl).1
        have tbG0 := (Rows.bc (HR.out.right.right.right.right.right.left) 0 rfl).2
        have dbW00 := (Rows.bc (HR.out.right.right.right.right.right.right.left) 0 rfl).1
        have dbW01 := (Rows.bc (HR.out.right.right.right.right.right.right.left) 1 rfl).1
        have dbW02 := (Rows.bc (HR.out.right.right.right.right.right.right.left) 2 rfl).1
        have tbW0 := (Rows.bc (HR.out.right.right.right.right.right.right.left) 0 rfl).2
        have da10 := (Rows.bc (HR.out.right.right.right.right.right.right.right.right.left) 0 rfl).1
        have da11 := (Rows.bc (HR.out.right.right.right.right.right.right.right.right.left) 1 rfl).1
        have da12 := (Rows.bc (HR.out.right.right.right.right.right.right.right.right.left) 2 rfl).1
        have ta1 := (Rows.bc (HR.out.right.right.right.right.right.right.right.right.left) 0 rfl).2
        have da00 := (Rows.bc (HR.out.right.right.right.right.right.right.right.right.right) 0 rfl).1
        have da01 := (Rows.bc (HR.out.right.right.right.right.right.right.right.right.right) 1 rfl).1
        have da02 := (Rows.bc (HR.out.right.right.right.right.right.right.right.right.right) 2 rfl).1
        have ta0 := (Rows.bc (HR.out.right.right.right.right.right.right.right.right.right) 0 rfl).2
        refine hK.out _ _ ⟨da00, da01, da02, da10, da11, da12⟩ (fun hS9 => ?_)
        refine wpAnyH_take (i := 5) (oi := ?oi170) (v := ?v170) ?hi170 (by kernel_rfl) ?hf170 ?hr170 ?hQ170 (Or.inl ⟨?hw170, ?hy170⟩) (by assumption) ?rest170
        case hi170 => simp only [List.getElem?_toArray, List.getElem?_cons_succ, List.getElem?_cons_zero]; rfl
        case hf170 => kernel_rfl
        case hr170 => kernel_rfl
        case hw170 => rfl
        case hy170 => (intro w hSw; (try dsimp only at hSw); go_simp; all_goals (first | done | with_reducible rfl))
        case hQ170 => exact fun _ _ _ h => h
        simp only [Act.put, List.setIfInBounds_toArray, List.set_cons_zero, List.set_cons_succ]
        refine wpAnyH_take (i := 6) (oi := ?oi171) (v := ?v171) ?hi171 (by kernel_rfl) ?hf171 ?hr171 ?hQ171 (Or.inl ⟨?hw171, ?hy171⟩) (by assumption) ?rest171
        case hi171 => simp only [List.getElem?_toArray, List.getElem?_cons_succ, List.getElem?_cons_zero]; rfl
        case hf171 => kernel_rfl
        case hr171 => kernel_rfl
        case hw171 => rfl
        case hy171 => (intro w hSw; (try dsimp only at hSw); go_simp; all_goals (first | done | with_reducible rfl))
        case hQ171 => exact fun _ _ _ h => h
        simp only [Act.put, List.setIfInBounds_toArray, List.set_cons_zero, List.set_cons_succ]
        refine wpAnyH_take (i := 7) (oi := ?oi172) (v := ?v172) ?hi172 (by kernel_rfl) ?hf172 ?hr172 ?hQ172 (Or.inl ⟨?hw172, ?hy172⟩) (by assumption) ?rest172
        case hi172 => simp only [List.getElem?_toArray, List.getElem?_cons_succ, List.getElem?_cons_zero]; rfl
        case hf172 => kernel_rfl
        case hr172 => kernel_rfl
        case hw172 => rfl
        case hy172 => (intro w hSw; (try dsimp only at hSw); go_simp; all_goals (first | done | with_reducible rfl))
        case hQ172 => exact fun _ _ _ h => h
        simp only [Act.put, List.setIfInBounds_toArray, List.set_cons_zero, List.set_cons_succ]
        replace HR := hid (HR.out.perm (((((List.perm_append_comm_assoc _ _ _).append_left _).trans (List.perm_append_comm_assoc _ _ _)).append_left _).trans (List.perm_append_comm_assoc _ _ _)))
        clear dbh00 dbh01 dbh02 tbh0 dbG00 dbG01 dbG02 tbG0 dbW00 dbW01 dbW02 tbW0 da10 da11 da12 ta1 da00 da01 da02 ta0
        have dbh00 := (Rows.bc (HR.out.left) 0 rfl).1
        have dbh01 := (Rows.bc (HR.out.left) 1 rfl).1
        have dbh02 := (Rows.bc (HR.out.left) 2 rfl).1
        have tbh0 := (Rows.bc (HR.out.left) 0 rfl).2
        have dbG00 := (Rows.bc (HR.out.right.right.right.right.right.left) 0 rfl).1
        have dbG01 := (Rows.bc (HR.out.right.right.right.right.right.left) 1 rfl).1
        have dbG02 := (Rows.bc (HR.out.right.right.right.right.right.left) 2 rfl).1
        have tbG0 := (Rows.bc (HR.out.right.right.right.right.right.left) 0 rfl).2
        have dbW00 := (Rows.bc (HR.out.right.right.right.right.right.right.left) 0 rfl).1
        have dbW01 := (Rows.bc (HR.out.right.right.right.right.right.right.left) 1 rfl).1
        have dbW02 := (Rows.bc (HR.out.right.right.right.right.right.right.left) 2 rfl).1
        have tbW0 := (Rows.bc (HR.out.right.right.right.right.right.right.left) 0 rfl).2
        have da10 := (Rows.bc (HR.out.right.right.right.right.right.right.right.right.left) 0 rfl).1
        have da11 := (Rows.bc (HR.out.right.right.right.right.right.right.right.right.left) 1 rfl).1
        have da12 := (Rows.bc (HR.out.right.right.right.right.right.right.right.right.left) 2 rfl).1
        have ta1 := (Rows.bc (HR.out.right.right.right.right.right.right.right.right.left) 0 rfl).2
        have da00 := (Rows.bc (HR.out.right.right.right.right.right.right.right.right.right) 0 rfl).1
        have da01 := (Rows.bc (HR.out.right.right.right.right.right.right.right.right.right) 1 rfl).1
        have da02 := (Rows.bc (HR.out.right.right.right.right.right.right.right.right.right) 2 rfl).1
        have ta0 := (Rows.bc (HR.out.right.right.right.right.right.right.right.right.right) 0 rfl).2
        have z0f : w68.frozen? ⟨w64.heap.size, 0, none⟩ = false := (Rows.bcell2 (T := 32) (d := 3) (cs := [.slice none 0 0, .slice none 0 0, .int .i64 0]) (pre := []) (q := 0) HR.out rfl).2.1
        have z1f : w68.frozen? ⟨w64.heap.size, 1, none⟩ = false := (Rows.bcell2 (T := 32) (d := 3) (cs := [.slice none 0 0, .slice none 0 0, .int .i64 0]) (pre := []) (q := 1) HR.out rfl).2.1
        have z2f : w68.frozen? ⟨w64.heap.size, 2, none⟩ = false := (Rows.bcell2 (T := 32) (d := 3) (cs := [.slice none 0 0, .slice none 0 0, .int .i64 0]) (pre := []) (q := 2) HR.out rfl).2.1
        refine wpAnyH_ready (rs := [9]) (by kernel_rfl) (by simp) ?_
        refine AllReadyH.cons (o := ?oi173) ?hi173 (fun K hK => ?step173) AllReadyH.nil
        case hi173 => simp only [List.getElem?_toArray, List.getElem?_cons_succ, List.getElem?_cons_zero]; rfl
        rw [if_pos (by rfl)]
        go_simp
        refine hK.out _ _ ⟨((World.cell?_setCell_far _ _ _ _ ne_a0).trans ((World.cell?_setCell_far _ _ _ _ ne_a0).trans ((World.cell?_setCell_far _ _ _ _ ne_a0).trans da00))), ((World.cell?_setCell_far _ _ _ _ ne_a0).trans ((World.cell?_setCell_far _ _ _ _ ne_a0).trans ((World.cell?_setCell_far _ _ _ _ ne_a0).trans da01))), ((World.cell?_setCell_far _ _ _ _ ne_a0).trans ((World.cell?_setCell_far _ _ _ _ ne_a0).trans ((World.cell?_setCell_far _ _ _ _ ne_a0).trans da02))), ((World.cell?_setCell_far _ _ _ _ ne_a1).trans ((World.cell?_setCell_far _ _ _ _ ne_a1).trans ((World.cell?_setCell_far _ _ _ _ ne_a1).trans da10))), ((World.cell?_setCell_far _ _ _ _ ne_a1).trans ((World.cell?_setCell_far _ _ _ _ ne_a1).trans ((World.cell?_setCell_far _ _ _ _ ne_a1).trans da11))), ((World.cell?_setCell_far _ _ _ _ ne_a1).trans ((World.cell?_setCell_far _ _ _ _ ne_a1).trans ((World.cell?_setCell_far _ _ _ _ ne_a1).trans da12)))⟩ (fun hS9 => ?_)
        refine wpAnyH_take (i := 10) (oi := ?oi174) (v := ?v174) ?hi174 (by kernel_rfl) ?hf174 ?hr174 ?hQ174 (Or.inl ⟨?hw174, ?hy174⟩) (by assumption) ?rest174
        case hi174 => simp only [List.getElem?_toArray, List.getElem?_cons_succ, List.getElem?_cons_zero]; rfl
        case hf174 => kernel_rfl
        case hr174 => kernel_rfl
        case hw174 => rfl
        case hy174 => (intro w hSw; (try dsimp only at hSw); go_simp; all_goals (first | done | with_reducible rfl))
        case hQ174 => exact fun _ _ _ h => h
        simp only [Act.put, List.setIfInBounds_toArray, List.set_cons_zero, List.set_cons_succ]
        refine wpAnyH_done (by kernel_rfl) ?_ _
        replace HR := hid (Rows.boxset (T := 32) (d := 3) (cs := [.slice none 0 0, .slice none 0 0, .int .i64 0]) (pre := []) (j := 0) (u := .slice fh00 fh01 fh02) HR.out)
        replace HR := hid (Rows.boxset (T := 32) (d := 3) (cs := [.slice fh00 fh01 fh02, .slice none 0 0, .int .i64 0]) (pre := []) (j := 1) (u := .slice fh03 fh04 fh05) HR.out)
        replace HR := hid (Rows.boxset (T := 32) (d := 3) (cs := [.slice fh00 fh01 fh02, .slice fh03 fh04 fh05, .int .i64 0]) (pre := []) (j := 2) (u := .int .i64 X0.2.2) HR.out)
        replace HB := hid (((HB.out.setCell (p := ⟨_, 0, none⟩) nle (.slice fh00 fh01 fh02)).setCell (p := ⟨_, 1, none⟩) nle (.slice fh03 fh04 fh05)).setCell (p := ⟨_, 2, none⟩) nle (.int .i64 X0.2.2))
        go_wp2_with fail
        go_meet
        case rel => exact ⟨_, _, _, _, _, _, _, _, _, _, _, _, rfl, rfl, Sh0.out, Sz1.out, Sz0.out, HR.out, HB.out⟩
    case rest =>
      clear HR HB dbG00 dbG01 dbG02 tbG0 dbW00 dbW01 dbW02 tbW0 da10 da11 da12 ta1 da00 da01 da02 ta0
      obtain ⟨bbh, fh00, fh01, fh02, fh03, fh04, fh05, rsh0, rsz1, vz1, rsz0, vz0, rfl, rfl, hsh0, hsz1, hsz0, hr, hb⟩ := hcut
      rename World => w100
      have HR := hid hr
      have HB := hid hb
      clear hr hb
      have Sh0 := hid hsh0
      clear hsh0
      have Sz1 := hid hsz1
      clear hsz1
      have Sz0 := hid hsz0
      clear hsz0
      have dbh00 := (Rows.bc (HR.out.left) 0 rfl).1
      have dbh01 := (Rows.bc (HR.out.left) 1 rfl).1
      have dbh02 := (Rows.bc (HR.out.left) 2 rfl).1
      have tbh0 := (Rows.bc (HR.out.left) 0 rfl).2
      have dbG00 := (Rows.bc (HR.out.right.right.right.right.right.left) 0 rfl).1
      have dbG01 := (Rows.bc (HR.out.right.right.right.right.right.left) 1 rfl).1
      have dbG02 := (Rows.bc (HR.out.right.right.right.right.right.left) 2 rfl).1
      have tbG0 := (Rows.bc (HR.out.right.right.right.right.right.left) 0 rfl).2
      have dbW00 := (Rows.bc (HR.out.right.right.right.right.right.right.left) 0 rfl).1
      have dbW01 := (Rows.bc (HR.out.right.right.right.right.right.right.left) 1 rfl).1
      have dbW02 := (Rows.bc (HR.out.right.right.right.right.right.right.left) 2 rfl).1
      have tbW0 := (Rows.bc (HR.out.right.right.right.right.right.right.left) 0 rfl).2
      have da10 := (Rows.bc (HR.out.right.right.right.right.right.right.right.right.left) 0 rfl).1
      have da11 := (Rows.bc (HR.out.right.right.right.right.right.right.right.right.left) 1 rfl).1
      have da12 := (Rows.bc (HR.out.right.right.right.right.right.right.right.right.left) 2 rfl).1
      have ta1 := (Rows.bc (HR.out.right.right.right.right.right.right.right.right.left) 0 rfl).2
      have da00 := (Rows.bc (HR.out.right.right.right.right.right.right.right.right.right) 0 rfl).1
      have da01 := (Rows.bc (HR.out.right.right.right.right.right.right.right.right.right) 1 rfl).1
      have da02 := (Rows.bc (HR.out.right.right.right.right.right.right.right.right.right) 2 rfl).1
      have ta0 := (Rows.bc (HR.out.right.right.right.right.right.right.right.right.right) 0 rfl).2
      replace HR := hid (HR.out.sub ((List.Sublist.refl _).append ((List.Sublist.refl _).append ((List.Sublist.refl _).append (List.sublist_append_right _ _)))))
      clear Sz0
      replace HR := hid (HR.out.sub ((List.Sublist.refl _).append ((List.Sublist.refl _).append (List.sublist_append_right _ _))))
      clear Sz1
      go_wp2_with fail
      refine (eqTreX_c Sh0.out (HR.out.right.left) SW0.out (HR.out.right.right.right.right.right.left) DX0.out).mono ?_
      rintro e w101 ⟨rfl, hb⟩
      replace HR := hid (HR.out.below hb)
      replace HB := hid (HB.out.trans (hb.mono HB.out.size))
      clear hb
      clear dbh00 dbh01 dbh02 tbh0 dbG00 dbG01 dbG02 tbG0 dbW00 dbW01 dbW02 tbW0 da10 da11 da12 ta1 da00 da01 da02 ta0
      have dbh00 := (Rows.bc (HR.out.left) 0 rfl).1
      have dbh01 := (Rows.bc (HR.out.left) 1 rfl).1
      have dbh02 := (Rows.bc (HR.out.left) 2 rfl).1
      have tbh0 := (Rows.bc (HR.out.left) 0 rfl).2
      have dbG00 := (Rows.bc (HR.out.right.right.right.left) 0 rfl).1
      have dbG01 := (Rows.bc (HR.out.right.right.right.left) 1 rfl).1
      have dbG02 := (Rows.bc (HR.out.right.right.right.left) 2 rfl).1
      have tbG0 := (Rows.bc (HR.out.right.right.right.left) 0 rfl).2
      have dbW00 := (Rows.bc (HR.out.right.right.right.right.left) 0 rfl).1
      have dbW01 := (Rows.bc (HR.out.right.right.right.right.left) 1 rfl).1
      have dbW02 := (Rows.bc (HR.out.right.right.right.right.left) 2 rfl).1
      have tbW0 := (Rows.bc (HR.out.right.right.right.right.left) 0 rfl).2
      have da10 := (Rows.bc (HR.out.right.right.right.right.right.right.left) 0 rfl).1
      have da11 := (Rows.bc (HR.out.right.right.right.right.right.right.left) 1 rfl).1
      have da12 := (Rows.bc (HR.out.right.right.right.right.right.right.left) 2 rfl).1
      have ta1 := (Rows.bc (HR.out.right.right.right.right.right.right.left) 0 rfl).2
      have da00 := (Rows.bc (HR.out.right.right.right.right.right.right.right) 0 rfl).1
      have da01 := (Rows.bc (HR.out.right.right.right.right.right.right.right) 1 rfl).1
      have da02 := (Rows.bc (HR.out.right.right.right.right.right.right.right) 2 rfl).1
      have ta0 := (Rows.bc (HR.out.right.right.right.right.right.right.right) 0 rfl).2
      go_wp2_with fail
      refine (heldTreX_c MG0.out (HR.out.right.right.left)).mono ?_
      rintro e w102 ⟨rfl, hb⟩
      replace HR := hid (HR.out.below hb)
      replace HB := hid (HB.out.trans (hb.mono HB.out.size))
      clear hb
      clear dbh00 dbh01 dbh02 tbh0 dbG00 dbG01 dbG02 tbG0 dbW00 dbW01 dbW02 tbW0 da10 da11 da12 ta1 da00 da01 da02 ta0
      have dbh00 := (Rows.bc (HR.out.left) 0 rfl).1
      have dbh01 := (Rows.bc (HR.out.left) 1 rfl).1
      have dbh02 := (Rows.bc (HR.out.left) 2 rfl).1
      have tbh0 := (Rows.bc (HR.out.left) 0 rfl).2
      have dbG00 := (Rows.bc (HR.out.right.right.right.left) 0 rfl).1
      have dbG01 := (Rows.bc (HR.out.right.right.right.left) 1 rfl).1
      have dbG02 := (Rows.bc (HR.out.right.right.right.left) 2 rfl).1
      have tbG0 := (Rows.bc (HR.out.right.right.right.left) 0 rfl).2
      have dbW00 := (Rows.bc (HR.out.right.right.right.right.left) 0 rfl).1
      have dbW01 := (Rows.bc (HR.out.right.right.right.right.left) 1 rfl).1
      have dbW02 := (Rows.bc (HR.out.right.right.right.right.left) 2 rfl).1
      have tbW0 := (Rows.bc (HR.out.right.right.right.right.left) 0 rfl).2
      have da10 := (Rows.bc (HR.out.right.right.right.right.right.right.left) 0 rfl).1
      have da11 := (Rows.bc (HR.out.right.right.right.right.right.right.left) 1 rfl).1
      have da12 := (Rows.bc (HR.out.right.right.right.right.right.right.left) 2 rfl).1
      have ta1 := (Rows.bc (HR.out.right.right.right.right.right.right.left) 0 rfl).2
      have da00 := (Rows.bc (HR.out.right.right.right.right.right.right.right) 0 rfl).1
      have da01 := (Rows.bc (HR.out.right.right.right.right.right.right.right) 1 rfl).1
      have da02 := (Rows.bc (HR.out.right.right.right.right.right.right.right) 2 rfl).1
      have ta0 := (Rows.bc (HR.out.right.right.right.right.right.right.right) 0 rfl).2
      go_wp2_with fail
      go_ret
      exact ⟨rfl, HB.out⟩
end Go.Proofs.Ytbidlmejonpadaa
