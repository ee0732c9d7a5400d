/-
  WALK: the law FnExactRuleOf. By gen_any.py.
-/
import Derived.Deep.Cut
import Derived.Test.YteekkccgdkmjoaaDoorRU1
import Derived.Test.YteekkccgdkmjoaaDoorApp
import Derived.Test.YteekkccgdkmjoaaDoorKRules
namespace Go.Proofs.YteekkccgdkmjoaaDoor
open Go.RowKit Go.Proofs.YteekkccgdkmjoaaDoor.Nm
set_option linter.unusedSimpArgs false
set_option linter.unusedVariables false

set_option maxHeartbeats 16000000 in
set_option maxRecDepth 100000 in
theorem walk_FnExactRuleOf (A0 : Option Addr) (n0 c0 : Nat) (d0 : List Rul) (tx1 : ByteArray) (md1 : ByteArray) (ln1 : Int) (w : World) (t0 : RulesRaw w w.heap.size A0 n0 c0 d0) (mtx1 : tx1.size ≤ maxLen) (mmd1 : md1.size ≤ maxLen) :
    Calls Tryd.prog 3 #[.slice A0 n0 c0, .agg #[.string tx1, .string md1, .int .i64 ln1]] w (BoolPost w true) := by
  have T0 := hid t0
  clear t0
  have HB := hid (Below.refl w.heap.size w)
  have hr : Rows (w.alloc (.cells #[.string tx1, .string md1, .int .i64 ln1] 24)) w.heap.size [bxRow 24 3 (w.heap.size) [.string tx1, .string md1, .int .i64 ln1]] := by have h := Rows.box w #[.string tx1, .string md1, .int .i64 ln1] 24 3 rfl; simpa using h
  have hb : Below w.heap.size w (w.alloc (.cells #[.string tx1, .string md1, .int .i64 ln1] 24)) := (Below.refl _ _).alloc (Nat.le_refl _) _
  have HR := hid hr
  replace HB := hid (HB.out.trans (hb.mono HB.out.size))
  clear hb hr
  have da10 := (Rows.bc (HR.out) 0 rfl).1
  have da11 := (Rows.bc (HR.out) 1 rfl).1
  have da12 := (Rows.bc (HR.out) 2 rfl).1
  have ta1 := (Rows.bc (HR.out) 0 rfl).2
  go_enter Tryd.func3, Tryd.ntmps3
  go_wp2_with fail
  refine (szRulesY_c A0 n0 c0 d0 w.heap.size _ _ (T0.out.below HB.out (Nat.le_refl _)) HB.out.size (by omega) (by omega)).mono ?_
  rintro e w1 ⟨r0, rfl, hb, hr⟩
  replace HR := hid (HR.out.below hb)
  replace HB := hid (HB.out.trans (hb.mono HB.out.size))
  clear hb
  clear da10 da11 da12 ta1
  have da10 := (Rows.bc (HR.out) 0 rfl).1
  have da11 := (Rows.bc (HR.out) 1 rfl).1
  have da12 := (Rows.bc (HR.out) 2 rfl).1
  have ta1 := (Rows.bc (HR.out) 0 rfl).2
  rcases hr with hr | ⟨hr0, hr1, hfit⟩
  · go_wp2_with fail
    go_ret
    exact ⟨rfl, HB.out⟩
  have F0 := hid hfit
  clear hfit
  go_wp2_with fail
  refine (szWarning_c tx1 md1 ln1 _ _ mtx1 mmd1 (by omega) (by omega)).mono ?_
  rintro e w2 ⟨r1, rfl, hb, hr⟩
  replace HR := hid (HR.out.below hb)
  replace HB := hid (HB.out.trans (hb.mono HB.out.size))
  clear hb
  clear da10 da11 da12 ta1
  have da10 := (Rows.bc (HR.out) 0 rfl).1
  have da11 := (Rows.bc (HR.out) 1 rfl).1
  have da12 := (Rows.bc (HR.out) 2 rfl).1
  have ta1 := (Rows.bc (HR.out) 0 rfl).2
  rcases hr with hr | ⟨hr0, hr1, ztx1, zmd1⟩
  · go_wp2_with fail
    go_ret
    exact ⟨rfl, HB.out⟩
  have cS : ∀ (W : World) (v0 : Value) (h0 : RulesIn W W.heap.size v0 d0), Calls Tryd.prog 7 #[v0, .agg #[.string tx1, .string md1, .int .i64 ln1]] W (fun e w2 => e = .returned (.int .i64 (ruleX d0 ⟨tx1.data.toList, md1.data.toList, ln1⟩)) ∧ Below W.heap.size W w2) := fun W v0 h0 => specRuleOf_c v0 _ _ d0 tx1 md1 ln1 W h0.1 (Nat.le_refl _) ztx1 zmd1
  have cI : ∀ (W : World) (v0 : Value) (h0 : RulesIn W W.heap.size v0 d0), Calls Tryd.prog 10 #[v0, .agg #[.string tx1, .string md1, .int .i64 ln1]] W (fun e w2 => e = .returned (.int .i64 (ruleX d0 ⟨tx1.data.toList, md1.data.toList, ln1⟩)) ∧ Below W.heap.size W w2) := fun W v0 h0 => implRuleOf_c v0 _ _ d0 tx1 md1 ln1 W h0.1 (Nat.le_refl _) ztx1 zmd1
  generalize ruleX d0 ⟨tx1.data.toList, md1.data.toList, ln1⟩ = X0 at cS cI
  have hX0 : (X0 == X0) = true := by simp
  replace cS := hid cS
  replace cI := hid cI
  go_wp2_with fail
  refine wp_region_held_drew (S := (fun w' : World => w'.cell? ⟨w.heap.size, 0, none⟩ = some (.string tx1) ∧ w'.cell? ⟨w.heap.size, 1, none⟩ = some (.string md1) ∧ w'.cell? ⟨w.heap.size, 2, none⟩ = some (.int .i64 ln1))) (by kernel_rfl) ⟨da10, da11, da12⟩ (fun hS => ?_)
  refine wpAnyH_take (i := 0) (oi := ?oi101) (v := ?v101) ?hi101 (by kernel_rfl) ?hf101 ?hr101 ?hQ101 (Or.inl ⟨?hw101, ?hy101⟩) (by assumption) ?rest101
  case hi101 => simp only [List.getElem?_toArray, List.getElem?_cons_succ, List.getElem?_cons_zero]; rfl
  case hf101 => kernel_rfl
  case hr101 => kernel_rfl
  case hw101 => rfl
  case hy101 => (intro w hSw; (try dsimp only at hSw); go_simp; all_goals (first | done | with_reducible rfl))
  case hQ101 => exact fun _ _ _ h => h
  simp only [Act.put, List.setIfInBounds_toArray, List.set_cons_zero, List.set_cons_succ]
  refine wpAnyH_take (i := 2) (oi := ?oi102) (v := ?v102) ?hi102 (by kernel_rfl) ?hf102 ?hr102 ?hQ102 (Or.inl ⟨?hw102, ?hy102⟩) (by assumption) ?rest102
  case hi102 => simp only [List.getElem?_toArray, List.getElem?_cons_succ, List.getElem?_cons_zero]; rfl
  case hf102 => kernel_rfl
  case hr102 => kernel_rfl
  case hw102 => rfl
  case hy102 => (intro w hSw; (try dsimp only at hSw); go_simp; all_goals (first | done | with_reducible rfl))
  case hQ102 => exact fun _ _ _ h => h
  simp only [Act.put, List.setIfInBounds_toArray, List.set_cons_zero, List.set_cons_succ]
  replace HR := hid (HR.out.below ((Below.refl w2.heap.size w2).drew))
  replace HB := hid HB.out.drew
  clear da10 da11 da12 ta1
  have da10 := (Rows.bc (HR.out) 0 rfl).1
  have da11 := (Rows.bc (HR.out) 1 rfl).1
  have da12 := (Rows.bc (HR.out) 2 rfl).1
  have ta1 := (Rows.bc (HR.out) 0 rfl).2
  refine wpAnyH_ready (rs := [1]) (by kernel_rfl) (by simp) ?_
  refine AllReadyH.cons (o := ?oi103) ?hi103 (fun K hK => ?step103) AllReadyH.nil
  case hi103 => simp only [List.getElem?_toArray, List.getElem?_cons_succ, List.getElem?_cons_zero]; rfl
  rw [if_pos (by rfl)]
  go_simp
  go_at_call 8
  refine (toRulesY_c A0 n0 c0 d0 w.heap.size _ (T0.out.below HB.out (Nat.le_refl _)) HB.out.size F0.out).mono ?_
  rintro e w3 ⟨v, rss0, rfl, hs, hr, hb⟩
  obtain ⟨fs00, fs01, fs02, rfl⟩ := hs.form hr
  have Ss0 := hid hs
  clear hs
  replace HR := hid (HR.out.newer hb hr HB.out.size)
  replace HB := hid (HB.out.trans (hb.mono HB.out.size))
  clear hb hr
  clear da10 da11 da12 ta1
  have da10 := (Rows.bc (HR.out.right) 0 rfl).1
  have da11 := (Rows.bc (HR.out.right) 1 rfl).1
  have da12 := (Rows.bc (HR.out.right) 2 rfl).1
  have ta1 := (Rows.bc (HR.out.right) 0 rfl).2
  refine hK.out _ _ ⟨da10, da11, da12⟩ (fun hS9 => ?_)
  refine wpAnyH_ready (rs := [3]) (by kernel_rfl) (by simp) ?_
  refine AllReadyH.cons (o := ?oi104) ?hi104 (fun K hK => ?step104) AllReadyH.nil
  case hi104 => simp only [List.getElem?_toArray, List.getElem?_cons_succ, List.getElem?_cons_zero]; rfl
  rw [if_pos (by rfl)]
  go_simp
  go_at_call 9
  refine (toWarning_c tx1 md1 ln1 _).mono ?_
  rintro e w4 ⟨rfl, hb⟩
  replace HR := hid (HR.out.below hb)
  replace HB := hid (HB.out.trans (hb.mono HB.out.size))
  clear hb
  clear da10 da11 da12 ta1
  have da10 := (Rows.bc (HR.out.right) 0 rfl).1
  have da11 := (Rows.bc (HR.out.right) 1 rfl).1
  have da12 := (Rows.bc (HR.out.right) 2 rfl).1
  have ta1 := (Rows.bc (HR.out.right) 0 rfl).2
  refine hK.out _ _ ⟨da10, da11, da12⟩ (fun hS9 => ?_)
  refine wpAnyH_ready (rs := [4]) (by kernel_rfl) (by simp) ?_
  refine AllReadyH.cons (o := ?oi105) ?hi105 (fun K hK => ?step105) AllReadyH.nil
  case hi105 => simp only [List.getElem?_toArray, List.getElem?_cons_succ, List.getElem?_cons_zero]; rfl
  rw [if_pos (by rfl)]
  go_simp
  go_at_call 7
  refine (cS.out _ _ (Ss0.out.at_ (HR.out.left) F0.out)).mono ?_
  rintro e w5 ⟨rfl, hb⟩
  replace HR := hid (HR.out.below hb)
  replace HB := hid (HB.out.trans (hb.mono HB.out.size))
  clear hb
  clear da10 da11 da12 ta1
  have da10 := (Rows.bc (HR.out.right) 0 rfl).1
  have da11 := (Rows.bc (HR.out.right) 1 rfl).1
  have da12 := (Rows.bc (HR.out.right) 2 rfl).1
  have ta1 := (Rows.bc (HR.out.right) 0 rfl).2
  refine hK.out _ _ ⟨da10, da11, da12⟩ (fun hS9 => ?_)
  refine wpAnyH_take (i := 5) (oi := ?oi106) (v := ?v106) ?hi106 (by kernel_rfl) ?hf106 ?hr106 ?hQ106 (Or.inl ⟨?hw106, ?hy106⟩) (by assumption) ?rest106
  case hi106 => simp only [List.getElem?_toArray, List.getElem?_cons_succ, List.getElem?_cons_zero]; rfl
  case hf106 => kernel_rfl
  case hr106 => kernel_rfl
  case hw106 => rfl
  case hy106 => (intro w hSw; (try dsimp only at hSw); go_simp; all_goals (first | done | with_reducible rfl))
  case hQ106 => exact fun _ _ _ h => h
  simp only [Act.put, List.setIfInBounds_toArray, List.set_cons_zero, List.set_cons_succ]
  refine wpAnyH_done (by kernel_rfl) ?_ _
  replace HR := hid (HR.out.sub (List.sublist_append_right _ _))
  clear Ss0
  go_wp2_with fail
  refine (toRulesY_c A0 n0 c0 d0 w.heap.size _ (T0.out.below HB.out (Nat.le_refl _)) HB.out.size F0.out).mono ?_
  rintro e w6 ⟨v, rsx0, rfl, hs, hr, hb⟩
  obtain ⟨fx00, fx01, fx02, rfl⟩ := hs.form hr
  have Sx0 := hid hs
  clear hs
  replace HR := hid (HR.out.newer hb hr HB.out.size)
  replace HB := hid (HB.out.trans (hb.mono HB.out.size))
  clear hb hr
  clear da10 da11 da12 ta1
  have da10 := (Rows.bc (HR.out.right) 0 rfl).1
  have da11 := (Rows.bc (HR.out.right) 1 rfl).1
  have da12 := (Rows.bc (HR.out.right) 2 rfl).1
  have ta1 := (Rows.bc (HR.out.right) 0 rfl).2
  go_wp2_with fail
  refine (toWarning_c tx1 md1 ln1 _).mono ?_
  rintro e w7 ⟨rfl, hb⟩
  replace HR := hid (HR.out.below hb)
  replace HB := hid (HB.out.trans (hb.mono HB.out.size))
  clear hb
  clear da10 da11 da12 ta1
  have da10 := (Rows.bc (HR.out.right) 0 rfl).1
  have da11 := (Rows.bc (HR.out.right) 1 rfl).1
  have da12 := (Rows.bc (HR.out.right) 2 rfl).1
  have ta1 := (Rows.bc (HR.out.right) 0 rfl).2
  go_wp2_with fail
  refine (cI.out _ _ (Sx0.out.at_ (HR.out.left) F0.out)).mono ?_
  rintro e w8 ⟨rfl, hb⟩
  replace HR := hid (HR.out.below hb)
  replace HB := hid (HB.out.trans (hb.mono HB.out.size))
  clear hb
  clear da10 da11 da12 ta1
  have da10 := (Rows.bc (HR.out.right) 0 rfl).1
  have da11 := (Rows.bc (HR.out.right) 1 rfl).1
  have da12 := (Rows.bc (HR.out.right) 2 rfl).1
  have ta1 := (Rows.bc (HR.out.right) 0 rfl).2
  go_wp2_with fail
  refine (toRulesY_c A0 n0 c0 d0 w.heap.size _ (T0.out.below HB.out (Nat.le_refl _)) HB.out.size F0.out).mono ?_
  rintro e w9 ⟨v, rsy0, rfl, hs, hr, hb⟩
  obtain ⟨fy00, fy01, fy02, rfl⟩ := hs.form hr
  have Sy0 := hid hs
  clear hs
  replace HR := hid (HR.out.newer hb hr HB.out.size)
  replace HB := hid (HB.out.trans (hb.mono HB.out.size))
  clear hb hr
  clear da10 da11 da12 ta1
  have da10 := (Rows.bc (HR.out.right.right) 0 rfl).1
  have da11 := (Rows.bc (HR.out.right.right) 1 rfl).1
  have da12 := (Rows.bc (HR.out.right.right) 2 rfl).1
  have ta1 := (Rows.bc (HR.out.right.right) 0 rfl).2
  go_wp2_with fail
  refine (eqRulesX_c Sx0.out (HR.out.right.left) Sy0.out (HR.out.left)).mono ?_
  rintro e w10 ⟨rfl, hb⟩
  replace HR := hid (HR.out.below hb)
  replace HB := hid (HB.out.trans (hb.mono HB.out.size))
  clear hb
  clear da10 da11 da12 ta1
  have da10 := (Rows.bc (HR.out.right.right) 0 rfl).1
  have da11 := (Rows.bc (HR.out.right.right) 1 rfl).1
  have da12 := (Rows.bc (HR.out.right.right) 2 rfl).1
  have ta1 := (Rows.bc (HR.out.right.right) 0 rfl).2
  replace HR := hid (HR.out.sub (List.sublist_append_right _ _))
  clear Sy0
  clear da10 da11 da12 ta1
  have da10 := (Rows.bc (HR.out.right) 0 rfl).1
  have da11 := (Rows.bc (HR.out.right) 1 rfl).1
  have da12 := (Rows.bc (HR.out.right) 2 rfl).1
  have ta1 := (Rows.bc (HR.out.right) 0 rfl).2
  go_wp2_with fail
  go_ret
  exact ⟨rfl, HB.out⟩
end Go.Proofs.YteekkccgdkmjoaaDoor
