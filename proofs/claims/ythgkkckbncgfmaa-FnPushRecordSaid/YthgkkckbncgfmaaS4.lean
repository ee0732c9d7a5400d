/-
  STORES: FlushBuffer of the model. By gen_s4.py.
-/
import Derived.Test.YthgkkckbncgfmaaS3
namespace Go.Proofs.Ythgkkckbncgfmaa
open Go.RowKit Nm
set_option linter.unusedSimpArgs false
set_option linter.unusedVariables false

set_option maxHeartbeats 4000000 in
set_option maxRecDepth 100000 in
theorem specFlush_c {w : World} {B : Nat} {v : Value} {d : Buf} (h : BufIn w B v d) (hB : B ≤ w.heap.size) :
    Calls Try.prog 29 #[v] w (FlushPost w (flushB d) (flushR d)) := by
  obtain ⟨A, n, c, e⟩ := h.form
  have C1 := hid (fun (w1 : World) (hb : Below w.heap.size w w1) => specValidBuffer0_c (h.below hb hB) (Nat.le_trans hB hb.size))
  have C2 := hid (fun (w1 : World) (hb : Below w.heap.size w w1) (u : Value) (hu : v = .agg #[.int .i64 d.rm, .int .i64 d.lv, u]) => copyRecords_c (show RecsIn w1 B u d.rc by
    obtain ⟨u', h1, h2⟩ := h; rw [h1] at hu; have := hu; simp at this; rw [← this]; exact h2.below hb hB) (Nat.le_trans hB hb.size))
  clear h
  obtain ⟨rm, lv, rc⟩ := d
  subst e
  cases hz : bufOk ⟨rm, lv, rc⟩ with
  | false =>
    have E0 := hid (show flushB ⟨rm, lv, rc⟩ = ⟨0, 0, []⟩ by unfold flushB; rw [hz]; rfl)
    have E1 := hid (show flushR ⟨rm, lv, rc⟩ = [] by unfold flushR; rw [hz]; rfl)
    rw [hz] at C1
    clear hz C2
    go_enter Try.func29, Try.ntmps29
    go_wp2_with fail
    refine (C1.out _ (by go_grown)).mono ?_
    rintro e w1 ⟨rfl, hb1⟩
    have K1 := ((Blk.new _ _ _).to hb1)
    simp only [World.size_alloc] at K1
    have HK1 := hid K1
    have HB1 := hid (Below.trans (by go_grown) (hb1.mono (by simp; try omega)) : Below w.heap.size w w1)
    obtain ⟨q0c, q0f⟩ := HK1.out.2 0 _ rfl
    obtain ⟨q1c, q1f⟩ := HK1.out.2 1 _ rfl
    obtain ⟨q2c, q2f⟩ := HK1.out.2 2 _ rfl
    clear hb1 K1
    go_wp2_with fail
    have RB := ((HK1.out.set 0 (.int .i64 0)).set 1 (.int .i64 0)).set 2 (.slice none 0 0)
    have f0 := (RB.2 0 _ rfl).1
    have f1 := (RB.2 1 _ rfl).1
    have f2 := (RB.2 2 _ rfl).1
    refine bodyPost_ret (v := .tuple #[.agg #[.int .i64 0, .int .i64 0, .slice none 0 0], .slice none 0 0]) (by simp [results, Try.results29, go_sem, f0, f1, f2]) rfl ?_
    rw [E0.out, E1.out]
    refine flush_none rfl ?_
    iterate 3 refine Below.setCell ?_ (by simp) _
    exact HB1.out
  | true =>
    have E0 := hid (show flushB ⟨rm, lv, rc⟩ = ⟨rm, lv, []⟩ by unfold flushB; rw [hz]; rfl)
    have E1 := hid (show flushR ⟨rm, lv, rc⟩ = rc by unfold flushR; rw [hz]; rfl)
    rw [hz] at C1
    clear hz
    go_enter Try.func29, Try.ntmps29
    go_wp2_with fail
    refine (C1.out _ (by go_grown)).mono ?_
    rintro e w1 ⟨rfl, hb1⟩
    have K0 := (((Blk.new _ _ _).alloc _).to hb1)
    have K1 := ((Blk.new _ _ _).to hb1)
    simp only [World.size_alloc] at K0 K1
    have HB1 := hid (Below.trans (by go_grown) (hb1.mono (by simp; try omega)) : Below w.heap.size w w1).drew
    have hs2 : w.heap.size + 2 ≤ w1.heap.size := by have := hb1.size; simp at this; omega
    have HS2 := hid hs2
    have HK0 := hid (K0.dr 1)
    have HK1 := hid (K1.dr 1)
    clear hb1 K0 K1
    go_wp2_with fail
    refine wp_region_held_drew (S := (fun w' : World => w'.cell? ⟨w.heap.size, 0, none⟩ = some (.int .i64 rm) ∧ w'.cell? ⟨w.heap.size, 1, none⟩ = some (.int .i64 lv) ∧ w'.cell? ⟨w.heap.size, 2, none⟩ = some (.slice A n c))) (by kernel_rfl) ⟨(HK0.out.2 0 _ rfl).1, (HK0.out.2 1 _ rfl).1, (HK0.out.2 2 _ rfl).1⟩ (fun hS => ?_)
    refine wpAnyH_take (i := 0) (oi := ?oi101) (v := ?v101) ?hi101 (by kernel_rfl) ?hf101 ?hr101 ?hQ101 (Or.inl ⟨?hw101, ?hy101⟩) (by assumption) ?rest101
    case hi101 => simp only [List.getElem?_toArray, List.getElem?_cons_succ, List.getElem?_cons_zero]; rfl
    case hf101 => kernel_rfl
    case hr101 => kernel_rfl
    case hw101 => rfl
    case hy101 => (intro w hSw; (try dsimp only at hSw); go_simp; all_goals (first | done | with_reducible rfl))
    case hQ101 => exact fun _ _ _ h => h
    simp only [Act.put, List.setIfInBounds_toArray, List.set_cons_zero, List.set_cons_succ]
    refine wpAnyH_take (i := 1) (oi := ?oi102) (v := ?v102) ?hi102 (by kernel_rfl) ?hf102 ?hr102 ?hQ102 (Or.inl ⟨?hw102, ?hy102⟩) (by assumption) ?rest102
    case hi102 => simp only [List.getElem?_toArray, List.getElem?_cons_succ, List.getElem?_cons_zero]; rfl
    case hf102 => kernel_rfl
    case hr102 => kernel_rfl
    case hw102 => rfl
    case hy102 => (intro w hSw; (try dsimp only at hSw); go_simp; all_goals (first | done | with_reducible rfl))
    case hQ102 => exact fun _ _ _ h => h
    simp only [Act.put, List.setIfInBounds_toArray, List.set_cons_zero, List.set_cons_succ]
    refine wpAnyH_take (i := 2) (oi := ?oi103) (v := ?v103) ?hi103 (by kernel_rfl) ?hf103 ?hr103 ?hQ103 (Or.inl ⟨?hw103, ?hy103⟩) (by assumption) ?rest103
    case hi103 => simp only [List.getElem?_toArray, List.getElem?_cons_succ, List.getElem?_cons_zero]; rfl
    case hf103 => kernel_rfl
    case hr103 => kernel_rfl
    case hw103 => rfl
    case hy103 => (intro w hSw; (try dsimp only at hSw); go_simp; all_goals (first | done | with_reducible rfl))
    case hQ103 => exact fun _ _ _ h => h
    simp only [Act.put, List.setIfInBounds_toArray, List.set_cons_zero, List.set_cons_succ]
    refine wpAnyH_take (i := 3) (oi := ?oi104) (v := ?v104) ?hi104 (by kernel_rfl) ?hf104 ?hr104 ?hQ104 (Or.inl ⟨?hw104, ?hy104⟩) (by assumption) ?rest104
    case hi104 => simp only [List.getElem?_toArray, List.getElem?_cons_succ, List.getElem?_cons_zero]; rfl
    case hf104 => kernel_rfl
    case hr104 => kernel_rfl
    case hw104 => rfl
    case hy104 => (intro w hSw; (try dsimp only at hSw); go_simp; all_goals (first | done | with_reducible rfl))
    case hQ104 => exact fun _ _ _ h => h
    simp only [Act.put, List.setIfInBounds_toArray, List.set_cons_zero, List.set_cons_succ]
    refine wpAnyH_take (i := 6) (oi := ?oi105) (v := ?v105) ?hi105 (by kernel_rfl) ?hf105 ?hr105 ?hQ105 (Or.inl ⟨?hw105, ?hy105⟩) (by assumption) ?rest105
    case hi105 => simp only [List.getElem?_toArray, List.getElem?_cons_succ, List.getElem?_cons_zero]; rfl
    case hf105 => kernel_rfl
    case hr105 => kernel_rfl
    case hw105 => rfl
    case hy105 => (intro w hSw; (try dsimp only at hSw); go_simp; all_goals (first | done | with_reducible rfl))
    case hQ105 => exact fun _ _ _ h => h
    simp only [Act.put, List.setIfInBounds_toArray, List.set_cons_zero, List.set_cons_succ]
    refine wpAnyH_take (i := 7) (oi := ?oi106) (v := ?v106) ?hi106 (by kernel_rfl) ?hf106 ?hr106 ?hQ106 (Or.inl ⟨?hw106, ?hy106⟩) (by assumption) ?rest106
    case hi106 => simp only [List.getElem?_toArray, List.getElem?_cons_succ, List.getElem?_cons_zero]; rfl
    case hf106 => kernel_rfl
    case hr106 => kernel_rfl
    case hw106 => rfl
    case hy106 => (intro w hSw; (try dsimp only at hSw); go_simp; all_goals (first | done | with_reducible rfl))
    case hQ106 => exact fun _ _ _ h => h
    simp only [Act.put, List.setIfInBounds_toArray, List.set_cons_zero, List.set_cons_succ]
    refine wpAnyH_ready (rs := [4, 8]) (by kernel_rfl) (by simp) ?_
    refine AllReadyH.cons (o := ?oi107) ?hi107 (fun K hK => ?stepA107) (AllReadyH.cons (o := ?oj107) ?hj107 (fun K hK => ?stepB107) AllReadyH.nil)
    case hi107 => simp only [List.getElem?_toArray, List.getElem?_cons_succ, List.getElem?_cons_zero]; rfl
    case hj107 => simp only [List.getElem?_toArray, List.getElem?_cons_succ, List.getElem?_cons_zero]; rfl
    all_goals rw [if_pos (by rfl)]
    all_goals go_simp
    · replace HK0 := hid (HK0.out.alloc (.cells #[] 33))
      replace HK1 := hid (HK1.out.alloc (.cells #[] 33))
      refine hK.out _ _ ⟨(HK0.out.2 0 _ rfl).1, (HK0.out.2 1 _ rfl).1, (HK0.out.2 2 _ rfl).1⟩ (fun _ => ?_)
      refine wpAnyH_take (i := 5) (oi := ?oi108) (v := ?v108) ?hi108 (by kernel_rfl) ?hf108 ?hr108 ?hQ108 (Or.inl ⟨?hw108, ?hy108⟩) (by assumption) ?rest108
      case hi108 => simp only [List.getElem?_toArray, List.getElem?_cons_succ, List.getElem?_cons_zero]; rfl
      case hf108 => kernel_rfl
      case hr108 => kernel_rfl
      case hw108 => rfl
      case hy108 => (intro w hSw; (try dsimp only at hSw); go_simp; all_goals (first | done | with_reducible rfl))
      case hQ108 => exact fun _ _ _ h => h
      simp only [Act.put, List.setIfInBounds_toArray, List.set_cons_zero, List.set_cons_succ]
      have HL := hid (Rows.one (r := ⟨33, 4, 0, .slice (some ⟨w1.heap.size, 0, none⟩) 0 0, []⟩) (World.ownsRow_lit w1.drew #[] 0 (Nat.le_refl _) (by unfold maxLen; omega) (by simp) : (w1.drew.alloc (.cells #[] 33)).ownsRow w1.heap.size 33 4 (.slice (some ⟨w1.heap.size, 0, none⟩) 0 0) 0 []))
      replace HB1 := hid (HB1.out.alloc HB1.out.size (.cells #[] 33))
      refine wpAnyH_ready (rs := [8]) (by kernel_rfl) (by simp) ?_
      refine AllReadyH.cons (o := ?oi109) ?hi109 (fun K hK => ?step109) AllReadyH.nil
      case hi109 => simp only [List.getElem?_toArray, List.getElem?_cons_succ, List.getElem?_cons_zero]; rfl
      rw [if_pos (by rfl)]
      go_simp
      go_at_call 51
      refine (C2.out _ HB1.out _ rfl).mono ?_
      rintro e w2 ⟨u, rfl, ho, hb2⟩
      obtain ⟨A2, c2, rfl, _, _⟩ := (Sl.of_own ho).form
      have HO := hid (Rows.one (r := ⟨_, _, _, _, _⟩) ho)
      replace HB1 := hid (HB1.out.trans (hb2.mono HB1.out.size))
      replace HK0 := hid (HK0.out.to hb2)
      replace HK1 := hid (HK1.out.to hb2)
      refine hK.out _ _ ⟨(HK0.out.2 0 _ rfl).1, (HK0.out.2 1 _ rfl).1, (HK0.out.2 2 _ rfl).1⟩ (fun _ => ?_)
      have HR := hid (HL.out.more hb2 HO.out (by simp))
      clear hb2 ho
      have q0 := HK1.out.2 0 _ rfl
      have q1 := HK1.out.2 1 _ rfl
      have q2 := HK1.out.2 2 _ rfl
      obtain ⟨q0c, q0f⟩ := q0
      obtain ⟨q1c, q1f⟩ := q1
      obtain ⟨q2c, q2f⟩ := q2
      have hne : ¬ (w.heap.size = w.heap.size + 1) := by omega
      refine wpAnyH_ready (rs := [9]) (by kernel_rfl) (by simp) ?_
      refine AllReadyH.cons (o := ?oi110) ?hi110 (fun K hK => ?step110) AllReadyH.nil
      case hi110 => simp only [List.getElem?_toArray, List.getElem?_cons_succ, List.getElem?_cons_zero]; rfl
      rw [if_pos (by rfl)]
      go_simp
      have RB := ((HK1.out.set 0 (.int .i64 rm)).set 1 (.int .i64 lv)).set 2 (.slice (some ⟨w1.heap.size, 0, none⟩) 0 0)
      have K0' := ((HK0.out.apart ⟨w.heap.size + 1, 0, none⟩ (.int .i64 rm) (by simp)).apart ⟨w.heap.size + 1, 1, none⟩ (.int .i64 lv) (by simp)).apart ⟨w.heap.size + 1, 2, none⟩ (.slice (some ⟨w1.heap.size, 0, none⟩) 0 0) (by simp)
      refine hK.out _ _ ⟨(K0'.2 0 _ rfl).1, (K0'.2 1 _ rfl).1, (K0'.2 2 _ rfl).1⟩ (fun _ => ?_)
      refine wpAnyH_take (i := 10) (oi := ?oi111) (v := ?v111) ?hi111 (by kernel_rfl) ?hf111 ?hr111 ?hQ111 (Or.inl ⟨?hw111, ?hy111⟩) (by assumption) ?rest111
      case hi111 => simp only [List.getElem?_toArray, List.getElem?_cons_succ, List.getElem?_cons_zero]; rfl
      case hf111 => kernel_rfl
      case hr111 => kernel_rfl
      case hw111 => rfl
      case hy111 => (intro w hSw; (try dsimp only at hSw); go_simp; all_goals (first | done | with_reducible rfl))
      case hQ111 => exact fun _ _ _ h => h
      simp only [Act.put, List.setIfInBounds_toArray, List.set_cons_zero, List.set_cons_succ]
      refine wpAnyH_done (by kernel_rfl) ?_ _
      go_wp2_with fail
      have f0 := (RB.2 0 _ rfl).1
      have f1 := (RB.2 1 _ rfl).1
      have f2 := (RB.2 2 _ rfl).1
      refine bodyPost_ret (v := .tuple #[.agg #[.int .i64 rm, .int .i64 lv, .slice (some ⟨w1.heap.size, 0, none⟩) 0 0], .slice A2 rc.length c2]) (by simp [results, Try.results29, go_sem, f0, f1, f2]) rfl ?_
      rw [E0.out, E1.out]
      have hs2 := HS2.out
      refine ⟨_, _, _, _, rfl, ⟨_, rfl, rfl⟩, rfl, Rows.base (lo := w1.heap.size) ?_ (by omega), ?_⟩
      · iterate 3 refine Rows.low ?_ (by omega)
        exact HR.out
      · iterate 3 refine Below.setCell ?_ (by simp) _
        exact HB1.out
    · go_at_call 51
      refine (C2.out _ HB1.out _ rfl).mono ?_
      rintro e w2 ⟨u, rfl, ho, hb2⟩
      obtain ⟨A2, c2, rfl, _, _⟩ := (Sl.of_own ho).form
      have HO := hid (Rows.one (r := ⟨_, _, _, _, _⟩) ho)
      replace HB1 := hid (HB1.out.trans (hb2.mono HB1.out.size))
      replace HK0 := hid (HK0.out.to hb2)
      replace HK1 := hid (HK1.out.to hb2)
      refine hK.out _ _ ⟨(HK0.out.2 0 _ rfl).1, (HK0.out.2 1 _ rfl).1, (HK0.out.2 2 _ rfl).1⟩ (fun _ => ?_)
      have HR0 := hid (HO.out.base (lo' := w1.heap.size) (Nat.le_refl _))
      have HS12 := hid hb2.size
      clear hb2 ho
      refine wpAnyH_ready (rs := [4]) (by kernel_rfl) (by simp) ?_
      refine AllReadyH.cons (o := ?oi112) ?hi112 (fun K hK => ?step112) AllReadyH.nil
      case hi112 => simp only [List.getElem?_toArray, List.getElem?_cons_succ, List.getElem?_cons_zero]; rfl
      rw [if_pos (by rfl)]
      go_simp
      have HR := hid (HR0.out.newer (w' := w2.alloc (.cells #[] 33)) ((Below.refl _ _).alloc (Nat.le_refl _) _) (Rows.one (r := ⟨33, 4, 0, .slice (some ⟨w2.heap.size, 0, none⟩) 0 0, []⟩) (World.ownsRow_lit w2 #[] 0 (Nat.le_refl _) (by unfold maxLen; omega) (by simp))) (by have := HS12.out; simpa using this))
      replace HB1 := hid (HB1.out.alloc HB1.out.size (.cells #[] 33))
      replace HK0 := hid (HK0.out.alloc (.cells #[] 33))
      replace HK1 := hid (HK1.out.alloc (.cells #[] 33))
      refine hK.out _ _ ⟨(HK0.out.2 0 _ rfl).1, (HK0.out.2 1 _ rfl).1, (HK0.out.2 2 _ rfl).1⟩ (fun _ => ?_)
      refine wpAnyH_take (i := 5) (oi := ?oi113) (v := ?v113) ?hi113 (by kernel_rfl) ?hf113 ?hr113 ?hQ113 (Or.inl ⟨?hw113, ?hy113⟩) (by assumption) ?rest113
      case hi113 => simp only [List.getElem?_toArray, List.getElem?_cons_succ, List.getElem?_cons_zero]; rfl
      case hf113 => kernel_rfl
      case hr113 => kernel_rfl
      case hw113 => rfl
      case hy113 => (intro w hSw; (try dsimp only at hSw); go_simp; all_goals (first | done | with_reducible rfl))
      case hQ113 => exact fun _ _ _ h => h
      simp only [Act.put, List.setIfInBounds_toArray, List.set_cons_zero, List.set_cons_succ]
      have q0 := HK1.out.2 0 _ rfl
      have q1 := HK1.out.2 1 _ rfl
      have q2 := HK1.out.2 2 _ rfl
      obtain ⟨q0c, q0f⟩ := q0
      obtain ⟨q1c, q1f⟩ := q1
      obtain ⟨q2c, q2f⟩ := q2
      have hne : ¬ (w.heap.size = w.heap.size + 1) := by omega
      refine wpAnyH_ready (rs := [9]) (by kernel_rfl) (by simp) ?_
      refine AllReadyH.cons (o := ?oi114) ?hi114 (fun K hK => ?step114) AllReadyH.nil
      case hi114 => simp only [List.getElem?_toArray, List.getElem?_cons_succ, List.getElem?_cons_zero]; rfl
      rw [if_pos (by rfl)]
      go_simp
      have RB := ((HK1.out.set 0 (.int .i64 rm)).set 1 (.int .i64 lv)).set 2 (.slice (some ⟨w2.heap.size, 0, none⟩) 0 0)
      have K0' := ((HK0.out.apart ⟨w.heap.size + 1, 0, none⟩ (.int .i64 rm) (by simp)).apart ⟨w.heap.size + 1, 1, none⟩ (.int .i64 lv) (by simp)).apart ⟨w.heap.size + 1, 2, none⟩ (.slice (some ⟨w2.heap.size, 0, none⟩) 0 0) (by simp)
      refine hK.out _ _ ⟨(K0'.2 0 _ rfl).1, (K0'.2 1 _ rfl).1, (K0'.2 2 _ rfl).1⟩ (fun _ => ?_)
      refine wpAnyH_take (i := 10) (oi := ?oi115) (v := ?v115) ?hi115 (by kernel_rfl) ?hf115 ?hr115 ?hQ115 (Or.inl ⟨?hw115, ?hy115⟩) (by assumption) ?rest115
      case hi115 => simp only [List.getElem?_toArray, List.getElem?_cons_succ, List.getElem?_cons_zero]; rfl
      case hf115 => kernel_rfl
      case hr115 => kernel_rfl
      case hw115 => rfl
      case hy115 => (intro w hSw; (try dsimp only at hSw); go_simp; all_goals (first | done | with_reducible rfl))
      case hQ115 => exact fun _ _ _ h => h
      simp only [Act.put, List.setIfInBounds_toArray, List.set_cons_zero, List.set_cons_succ]
      refine wpAnyH_done (by kernel_rfl) ?_ _
      go_wp2_with fail
      have f0 := (RB.2 0 _ rfl).1
      have f1 := (RB.2 1 _ rfl).1
      have f2 := (RB.2 2 _ rfl).1
      refine bodyPost_ret (v := .tuple #[.agg #[.int .i64 rm, .int .i64 lv, .slice (some ⟨w2.heap.size, 0, none⟩) 0 0], .slice A2 rc.length c2]) (by simp [results, Try.results29, go_sem, f0, f1, f2]) rfl ?_
      rw [E0.out, E1.out]
      have hs2 := HS2.out
      refine ⟨_, _, _, _, rfl, ⟨_, rfl, rfl⟩, rfl, Rows.base (lo := w1.heap.size) ?_ (by omega), ?_⟩
      · iterate 3 refine Rows.low ?_ (by omega)
        exact HR.out
      · iterate 3 refine Below.setCell ?_ (by simp) _
        exact HB1.out
theorem flushB_fit {d : Buf} (h : BufFit d) : BufFit (flushB d) := by unfold flushB; split <;> exact RecsFit.nil
theorem flushR_fit {d : Buf} (h : BufFit d) : RecsFit (flushR d) := by unfold flushR; split; exact h; exact RecsFit.nil
end Go.Proofs.Ythgkkckbncgfmaa
