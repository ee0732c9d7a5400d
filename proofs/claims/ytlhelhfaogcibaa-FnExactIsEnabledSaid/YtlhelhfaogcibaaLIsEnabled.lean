/-
  WALK: the law FnExactIsEnabled. By gen_tree.py.
-/
import Derived.Test.YtlhelhfaogcibaaN15
namespace Go.Proofs.Ytlhelhfaogcibaa
open Go.RowKit Nm
set_option linter.unusedSimpArgs false
set_option linter.unusedVariables false

set_option maxHeartbeats 8000000 in
set_option maxRecDepth 100000 in
theorem walk_FnExactIsEnabled (Aa0 : Option Addr) (na0 ca0 : Nat) (Ab0 : Option Addr) (nb0 cb0 : Nat) (q0 : Int) (la0 : List LgrV) (lb0 : List HndV) (a1 : ByteArray) (a2 : Int) (w : World) (t0 : treeRaw w w.heap.size Aa0 na0 ca0 Ab0 nb0 cb0 la0 lb0) (m1 : a1.size ≤ maxLen) (m2 : -9223372036854775808 ≤ a2 ∧ a2 ≤ 9223372036854775807) :
    Calls Try.prog 9 #[.agg #[.slice Aa0 na0 ca0, .slice Ab0 nb0 cb0, .int .i64 q0], .string a1, .int .i64 a2] w (BoolPost w true) := by
  have T0 := hid t0
  clear t0
  have HB := hid (Below.refl w.heap.size w)
  replace HB := hid (show Below w.heap.size w (w.alloc (.cells #[.slice Aa0 na0 ca0, .slice Ab0 nb0 cb0, .int .i64 q0] 25)) from HB.out.alloc HB.out.size _)
  have HC0 := hid (Below.refl (w.alloc (.cells #[.slice Aa0 na0 ca0, .slice Ab0 nb0 cb0, .int .i64 q0] 25)).heap.size (w.alloc (.cells #[.slice Aa0 na0 ca0, .slice Ab0 nb0 cb0, .int .i64 q0] 25)))
  have m1' := m1
  unfold maxLen at m1'
  by_cases q1 : (1048576 : Int) < (a1.size : Int)
  · go_enter Try.func9, Try.ntmps9
    go_wp2_with fail
    go_ret
    exact ⟨rfl, HB.out⟩
  have z1 : a1.size ≤ maxTxt := by unfold maxTxt; omega
  have cS := fun (W : World) (v : Value) (B : Nat) (h : TreeIn W B v (lsOf la0) (hsOf lb0) q0) (hB : B ≤ W.heap.size) => specIsEnabled_c a1 a2 h hB z1
  have cI := fun (W : World) (v : Value) (B : Nat) (h : TreeIn W B v (lsOf la0) (hsOf lb0) q0) (hB : B ≤ W.heap.size) => implIsEnabled_c a1 a2 h hB (txt_len z1)
  generalize isEnabledT (lsOf la0) (hsOf lb0) q0 a1.data.toList a2 = X at cS cI
  replace cS := hid cS
  replace cI := hid cI
  have d00 : (w.alloc (.cells #[.slice Aa0 na0 ca0, .slice Ab0 nb0 cb0, .int .i64 q0] 25)).cell? ⟨w.heap.size, 0, none⟩ = some (.slice Aa0 na0 ca0) := box_cell HC0.out 0
  have d01 : (w.alloc (.cells #[.slice Aa0 na0 ca0, .slice Ab0 nb0 cb0, .int .i64 q0] 25)).cell? ⟨w.heap.size, 1, none⟩ = some (.slice Ab0 nb0 cb0) := box_cell HC0.out 1
  have d02 : (w.alloc (.cells #[.slice Aa0 na0 ca0, .slice Ab0 nb0 cb0, .int .i64 q0] 25)).cell? ⟨w.heap.size, 2, none⟩ = some (.int .i64 q0) := box_cell HC0.out 2
  go_enter Try.func9, Try.ntmps9
  go_wp2_with fail
  refine (szTree_c Aa0 na0 ca0 Ab0 nb0 cb0 w.heap.size q0 la0 lb0 _ _ (T0.out.below HB.out (Nat.le_refl _)) HB.out.size (by omega) (by omega)).mono ?_
  rintro e w1 ⟨r0, rfl, hb, hr⟩
  replace HB := hid (HB.out.trans (hb.mono HB.out.size))
  replace HC0 := hid (HC0.out.trans (hb.mono HC0.out.size))
  clear hb
  clear d00 d01 d02
  have d00 : w1.cell? ⟨w.heap.size, 0, none⟩ = some (.slice Aa0 na0 ca0) := box_cell HC0.out 0
  have d01 : w1.cell? ⟨w.heap.size, 1, none⟩ = some (.slice Ab0 nb0 cb0) := box_cell HC0.out 1
  have d02 : w1.cell? ⟨w.heap.size, 2, none⟩ = some (.int .i64 q0) := box_cell HC0.out 2
  rcases hr with hr | ⟨hr0, hr1, hfit⟩
  · go_wp2_with fail
    go_ret
    exact ⟨rfl, HB.out⟩
  have F0 := hid hfit
  have D0 := hid (fit_data T0.out hfit)
  clear hfit
  go_wp2_with fail
  refine (toTreeX_c Aa0 na0 ca0 Ab0 nb0 cb0 w.heap.size q0 la0 lb0 _ (T0.out.below HB.out (Nat.le_refl _)) F0.out HB.out.size).mono ?_
  rintro e w2 ⟨v, rs, rfl, hs, hr, hb⟩
  have Ss0 := hid hs
  obtain ⟨fs01, fs02, fs03, fs04, fs05, fs06, rfl⟩ := (hs.at_ hr D0.out).form
  clear hs
  have HR := hid (hr.base HB.out.size)
  replace HB := hid (HB.out.trans (hb.mono HB.out.size))
  replace HC0 := hid (HC0.out.trans (hb.mono HC0.out.size))
  clear hb hr
  clear d00 d01 d02
  have d00 : w2.cell? ⟨w.heap.size, 0, none⟩ = some (.slice Aa0 na0 ca0) := box_cell HC0.out 0
  have d01 : w2.cell? ⟨w.heap.size, 1, none⟩ = some (.slice Ab0 nb0 cb0) := box_cell HC0.out 1
  have d02 : w2.cell? ⟨w.heap.size, 2, none⟩ = some (.int .i64 q0) := box_cell HC0.out 2
  go_wp2_with fail
  refine (cS.out _ _ _ (Ss0.out.at_ (HR.out) D0.out) (Nat.le_refl _)).mono ?_
  rintro e w3 ⟨rfl, hb⟩
  replace HR := hid (HR.out.below hb)
  replace HB := hid (HB.out.trans (hb.mono HB.out.size))
  replace HC0 := hid (HC0.out.trans (hb.mono HC0.out.size))
  clear hb
  clear d00 d01 d02
  have d00 : w3.cell? ⟨w.heap.size, 0, none⟩ = some (.slice Aa0 na0 ca0) := box_cell HC0.out 0
  have d01 : w3.cell? ⟨w.heap.size, 1, none⟩ = some (.slice Ab0 nb0 cb0) := box_cell HC0.out 1
  have d02 : w3.cell? ⟨w.heap.size, 2, none⟩ = some (.int .i64 q0) := box_cell HC0.out 2
  clear HR
  clear Ss0
  go_wp2_with fail
  refine (toTreeX_c Aa0 na0 ca0 Ab0 nb0 cb0 w.heap.size q0 la0 lb0 _ (T0.out.below HB.out (Nat.le_refl _)) F0.out HB.out.size).mono ?_
  rintro e w4 ⟨v, rs, rfl, hs, hr, hb⟩
  have Sx0 := hid hs
  obtain ⟨fx01, fx02, fx03, fx04, fx05, fx06, rfl⟩ := (hs.at_ hr D0.out).form
  clear hs
  have HR := hid (hr.base HB.out.size)
  replace HB := hid (HB.out.trans (hb.mono HB.out.size))
  replace HC0 := hid (HC0.out.trans (hb.mono HC0.out.size))
  clear hb hr
  clear d00 d01 d02
  have d00 : w4.cell? ⟨w.heap.size, 0, none⟩ = some (.slice Aa0 na0 ca0) := box_cell HC0.out 0
  have d01 : w4.cell? ⟨w.heap.size, 1, none⟩ = some (.slice Ab0 nb0 cb0) := box_cell HC0.out 1
  have d02 : w4.cell? ⟨w.heap.size, 2, none⟩ = some (.int .i64 q0) := box_cell HC0.out 2
  have hb : Below w4.heap.size w4 (w4.alloc (.cells #[.slice fx01 fx02 fx03, .slice fx04 fx05 fx06, .int .i64 q0] 31)) := (Below.refl _ _).alloc (Nat.le_refl _) _
  replace HR := hid (HR.out.below hb)
  replace HB := hid (HB.out.trans (hb.mono HB.out.size))
  replace HC0 := hid (HC0.out.trans (hb.mono HC0.out.size))
  clear hb
  have HCx0 := hid (Below.refl (w4.alloc (.cells #[.slice fx01 fx02 fx03, .slice fx04 fx05 fx06, .int .i64 q0] 31)).heap.size (w4.alloc (.cells #[.slice fx01 fx02 fx03, .slice fx04 fx05 fx06, .int .i64 q0] 31)))
  clear d00 d01 d02
  have d00 : (w4.alloc (.cells #[.slice fx01 fx02 fx03, .slice fx04 fx05 fx06, .int .i64 q0] 31)).cell? ⟨w.heap.size, 0, none⟩ = some (.slice Aa0 na0 ca0) := box_cell HC0.out 0
  have d01 : (w4.alloc (.cells #[.slice fx01 fx02 fx03, .slice fx04 fx05 fx06, .int .i64 q0] 31)).cell? ⟨w.heap.size, 1, none⟩ = some (.slice Ab0 nb0 cb0) := box_cell HC0.out 1
  have d02 : (w4.alloc (.cells #[.slice fx01 fx02 fx03, .slice fx04 fx05 fx06, .int .i64 q0] 31)).cell? ⟨w.heap.size, 2, none⟩ = some (.int .i64 q0) := box_cell HC0.out 2
  have dx00 : (w4.alloc (.cells #[.slice fx01 fx02 fx03, .slice fx04 fx05 fx06, .int .i64 q0] 31)).cell? ⟨w4.heap.size, 0, none⟩ = some (.slice fx01 fx02 fx03) := box_cell HCx0.out 0
  have dx01 : (w4.alloc (.cells #[.slice fx01 fx02 fx03, .slice fx04 fx05 fx06, .int .i64 q0] 31)).cell? ⟨w4.heap.size, 1, none⟩ = some (.slice fx04 fx05 fx06) := box_cell HCx0.out 1
  have dx02 : (w4.alloc (.cells #[.slice fx01 fx02 fx03, .slice fx04 fx05 fx06, .int .i64 q0] 31)).cell? ⟨w4.heap.size, 2, none⟩ = some (.int .i64 q0) := box_cell HCx0.out 2
  go_wp2_with fail
  refine (cI.out _ _ _ (Sx0.out.at_ (HR.out) D0.out) (Nat.le_refl _)).mono ?_
  rintro e w5 ⟨rfl, hb⟩
  replace HR := hid (HR.out.below hb)
  replace HB := hid (HB.out.trans (hb.mono HB.out.size))
  replace HC0 := hid (HC0.out.trans (hb.mono HC0.out.size))
  replace HCx0 := hid (HCx0.out.trans (hb.mono HCx0.out.size))
  clear hb
  clear d00 d01 d02 dx00 dx01 dx02
  have d00 : w5.cell? ⟨w.heap.size, 0, none⟩ = some (.slice Aa0 na0 ca0) := box_cell HC0.out 0
  have d01 : w5.cell? ⟨w.heap.size, 1, none⟩ = some (.slice Ab0 nb0 cb0) := box_cell HC0.out 1
  have d02 : w5.cell? ⟨w.heap.size, 2, none⟩ = some (.int .i64 q0) := box_cell HC0.out 2
  have dx00 : w5.cell? ⟨w4.heap.size, 0, none⟩ = some (.slice fx01 fx02 fx03) := box_cell HCx0.out 0
  have dx01 : w5.cell? ⟨w4.heap.size, 1, none⟩ = some (.slice fx04 fx05 fx06) := box_cell HCx0.out 1
  have dx02 : w5.cell? ⟨w4.heap.size, 2, none⟩ = some (.int .i64 q0) := box_cell HCx0.out 2
  have ltx0 : w4.heap.size < w5.heap.size := by have := HCx0.out.size; simp at this; omega
  have lt0 : w.heap.size < w5.heap.size := by have := HC0.out.size; simp at this; omega
  go_wp2_with fail
  refine wp_region_held_drew (S := (fun w' : World => w'.cell? ⟨w4.heap.size, 0, none⟩ = some (.slice fx01 fx02 fx03) ∧ w'.cell? ⟨w4.heap.size, 1, none⟩ = some (.slice fx04 fx05 fx06) ∧ w'.cell? ⟨w4.heap.size, 2, none⟩ = some (.int .i64 q0) ∧ w'.cell? ⟨w.heap.size, 0, none⟩ = some (.slice Aa0 na0 ca0) ∧ w'.cell? ⟨w.heap.size, 1, none⟩ = some (.slice Ab0 nb0 cb0) ∧ w'.cell? ⟨w.heap.size, 2, none⟩ = some (.int .i64 q0))) (by kernel_rfl) ⟨dx00, dx01, dx02, d00, d01, d02⟩ (fun hS => ?_)
  refine wpAnyH_take (i := 0) (oi := ?oi1) (v := ?v1) ?hi1 (by kernel_rfl) ?hf1 ?hr1 ?hQ1 (Or.inl ⟨?hw1, ?hy1⟩) (by assumption) ?rest1
  case hi1 => simp only [List.getElem?_toArray, List.getElem?_cons_succ, List.getElem?_cons_zero]; rfl
  case hf1 => kernel_rfl
  case hr1 => kernel_rfl
  case hw1 => rfl
  case hy1 => (intro w hSw; (try dsimp only at hSw); go_simp <;> (first | done | with_reducible rfl))
  case hQ1 => exact fun _ _ _ h => h
  simp only [Act.put, List.setIfInBounds_toArray, List.set_cons_zero, List.set_cons_succ]
  refine wpAnyH_take (i := 1) (oi := ?oi2) (v := ?v2) ?hi2 (by kernel_rfl) ?hf2 ?hr2 ?hQ2 (Or.inl ⟨?hw2, ?hy2⟩) (by assumption) ?rest2
  case hi2 => simp only [List.getElem?_toArray, List.getElem?_cons_succ, List.getElem?_cons_zero]; rfl
  case hf2 => kernel_rfl
  case hr2 => kernel_rfl
  case hw2 => rfl
  case hy2 => (intro w hSw; (try dsimp only at hSw); go_simp <;> (first | done | with_reducible rfl))
  case hQ2 => exact fun _ _ _ h => h
  simp only [Act.put, List.setIfInBounds_toArray, List.set_cons_zero, List.set_cons_succ]
  refine wpAnyH_ready (rs := [2]) (by kernel_rfl) (by simp) ?_
  refine AllReadyH.cons (o := ?oi3) ?hi3 (fun K hK => ?step3) AllReadyH.nil
  case hi3 => simp only [List.getElem?_toArray, List.getElem?_cons_succ, List.getElem?_cons_zero]; rfl
  rw [if_pos (by rfl)]
  go_simp
  go_at_call 13
  refine (toTreeX_c Aa0 na0 ca0 Ab0 nb0 cb0 w.heap.size q0 la0 lb0 _ (T0.out.below HB.out.drew (Nat.le_refl _)) F0.out HB.out.drew.size).mono ?_
  rintro e w6 ⟨v, rs, rfl, hs, hr, hb⟩
  refine hK.out _ _ ⟨(hb.cell (p := ⟨w4.heap.size, _, none⟩) ltx0).trans dx00, (hb.cell (p := ⟨w4.heap.size, _, none⟩) ltx0).trans dx01, (hb.cell (p := ⟨w4.heap.size, _, none⟩) ltx0).trans dx02, (hb.cell (p := ⟨w.heap.size, _, none⟩) lt0).trans d00, (hb.cell (p := ⟨w.heap.size, _, none⟩) lt0).trans d01, (hb.cell (p := ⟨w.heap.size, _, none⟩) lt0).trans d02⟩ (fun hS9 => ?_)
  have HR2 := hid ((HR.out.below ((Below.refl _ _).drew)).more hb hr HB.out.drew.size)
  replace ltx0 := Nat.lt_of_lt_of_le ltx0 hb.size
  replace lt0 := Nat.lt_of_lt_of_le lt0 hb.size
  refine wpAnyH_ready (rs := [3]) (by kernel_rfl) (by simp) ?_
  refine AllReadyH.cons (o := ?oi4) ?hi4 (fun K hK => ?step4) AllReadyH.nil
  case hi4 => simp only [List.getElem?_toArray, List.getElem?_cons_succ, List.getElem?_cons_zero]; rfl
  rw [if_pos (by rfl)]
  go_simp
  go_at_call 15
  refine (eqTreeX_c Sx0.out (HR2.out.left) hs HR2.out.right D0.out).mono ?_
  rintro e w7 ⟨rfl, hb9⟩
  refine hK.out _ _ ⟨(hb9.cell (p := ⟨w4.heap.size, _, none⟩) ltx0).trans hS9.1, (hb9.cell (p := ⟨w4.heap.size, _, none⟩) ltx0).trans hS9.2.1, (hb9.cell (p := ⟨w4.heap.size, _, none⟩) ltx0).trans hS9.2.2.1, (hb9.cell (p := ⟨w.heap.size, _, none⟩) lt0).trans hS9.2.2.2.1, (hb9.cell (p := ⟨w.heap.size, _, none⟩) lt0).trans hS9.2.2.2.2.1, (hb9.cell (p := ⟨w.heap.size, _, none⟩) lt0).trans hS9.2.2.2.2.2⟩ (fun hS9 => ?_)
  have hb := ((Below.refl w5.heap.size w5).drew.trans hb).trans (hb9.mono ((Below.refl w5.heap.size w5).drew.trans hb).size)
  replace HR := hid (HR2.out.left.below hb9)
  clear HR2 ltx0 lt0 hb9 hr hs
  refine wpAnyH_take (i := 4) (oi := ?oi5) (v := ?v5) ?hi5 (by kernel_rfl) ?hf5 ?hr5 ?hQ5 (Or.inl ⟨?hw5, ?hy5⟩) (by assumption) ?rest5
  case hi5 => simp only [List.getElem?_toArray, List.getElem?_cons_succ, List.getElem?_cons_zero]; rfl
  case hf5 => kernel_rfl
  case hr5 => kernel_rfl
  case hw5 => rfl
  case hy5 => (intro w hSw; (try dsimp only at hSw); go_simp <;> (first | done | with_reducible rfl))
  case hQ5 => exact fun _ _ _ h => h
  simp only [Act.put, List.setIfInBounds_toArray, List.set_cons_zero, List.set_cons_succ]
  refine wpAnyH_done (by kernel_rfl) ?_ _
  replace HB := hid (HB.out.trans (hb.mono HB.out.size))
  replace HC0 := hid (HC0.out.trans (hb.mono HC0.out.size))
  replace HCx0 := hid (HCx0.out.trans (hb.mono HCx0.out.size))
  clear hb
  clear d00 d01 d02 dx00 dx01 dx02
  have d00 : w7.cell? ⟨w.heap.size, 0, none⟩ = some (.slice Aa0 na0 ca0) := box_cell HC0.out 0
  have d01 : w7.cell? ⟨w.heap.size, 1, none⟩ = some (.slice Ab0 nb0 cb0) := box_cell HC0.out 1
  have d02 : w7.cell? ⟨w.heap.size, 2, none⟩ = some (.int .i64 q0) := box_cell HC0.out 2
  have dx00 : w7.cell? ⟨w4.heap.size, 0, none⟩ = some (.slice fx01 fx02 fx03) := box_cell HCx0.out 0
  have dx01 : w7.cell? ⟨w4.heap.size, 1, none⟩ = some (.slice fx04 fx05 fx06) := box_cell HCx0.out 1
  have dx02 : w7.cell? ⟨w4.heap.size, 2, none⟩ = some (.int .i64 q0) := box_cell HCx0.out 2
  go_wp2_with fail
  go_ret
  exact ⟨rfl, HB.out⟩
end Go.Proofs.Ytlhelhfaogcibaa
