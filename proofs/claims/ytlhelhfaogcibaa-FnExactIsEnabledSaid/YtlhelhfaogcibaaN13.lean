/-
  WALKS: the model's ParentOf, BranchOf, ChildrenOf.
-/
import Derived.Test.YtlhelhfaogcibaaN10
import Derived.Test.YtlhelhfaogcibaaN12
namespace Go.Proofs.Ytlhelhfaogcibaa
open Go.RowKit Nm
set_option linter.unusedSimpArgs false
set_option linter.unusedVariables false

theorem path_second {ns : List Name} (hok : ∀ z ∈ ns, nameOk z = true) (h0 : ns[0]? = some []) {x : Name} (hr : ns.getD (nearN ns x) [] ≠ []) : (pathN ns x)[1]? = some (upN ns (nearN ns x)) := by
  unfold pathN
  obtain ⟨g, hg, e⟩ := pathF_up (ns := ns) (f := 4) hr (depth_le hok _)
  rw [e]
  cases g with
  | zero => omega
  | succ g => simp only [List.getElem?_cons_succ, pathF]; split <;> rfl
theorem near_self {ns : List Name} (h0 : ns[0]? = some []) (hn : ns.Nodup) {x : Name} (hm : x ∈ ns) : nearN ns x < ns.length ∧ ns.getD (nearN ns x) [] = x := by
  obtain ⟨j, hj, e⟩ := List.getElem_of_mem hm
  have e2 : ns[j]? = some x := by rw [List.getElem?_eq_getElem hj, e]
  rw [near_hit h0 hn _ _ e2]
  exact ⟨hj, at_getD e2⟩

set_option maxHeartbeats 4000000 in
set_option maxRecDepth 100000 in
theorem specParentOf_c {w : World} {B : Nat} {v : Value} {L : List Lgr} {H : List Hnd} {q : Int} (x : ByteArray) (h : TreeIn w B v L H q) (hB : B ≤ w.heap.size) (hx : x.size ≤ maxTxt) :
    Calls Try.prog 22 #[v, .string x] w (fun e w' => e = .returned (.tuple #[txt (parentT L H q x.data.toList), .bool (parentB L H q x.data.toList)]) ∧ Below w.heap.size w w') := by
  unfold maxTxt at hx
  have C := hid (fun (W : World) (hW : Below w.heap.size w W) => specTreeX_c (h.below hW hB) (Nat.le_trans hB hW.size))
  have HP0 := hid (show parentT L H q x.data.toList = if parentB L H q x.data.toList then (nsOf L).getD (upN (nsOf L) (nearN (nsOf L) x.data.toList)) [] else [] from rfl)
  cases hz : treeOk L H q with
  | false =>
    have HE := hid (show parentB L H q x.data.toList = false by unfold parentB; rw [hz]; rfl)
    obtain ⟨A1, n1, k1, A2, n2, k2, rfl⟩ := h.form
    rw [hz] at C
    clear h hz
    go_enter Try.func22, Try.ntmps22
    go_wp2_with fail
    refine (C.out _ ?_).mono ?_
    case refine_1 => go_grown
    rintro e w1 ⟨rfl, hb1⟩
    have HB1 := hid (Below.trans (by go_grown) (hb1.mono (by simp; try omega)) : Below w.heap.size w w1)
    clear hb1
    go_wp2_with fail
    go_ret2
    exact ⟨by rw [HP0.out, HE.out]; rfl, HB1.out⟩
  | true =>
    rw [hz] at C
    obtain ⟨b, o, n1, k1, A2, n2, k2, ls, rfl, hl, hL, hN, hn, hn8, hn1, hbB⟩ := h.opened hz
    obtain ⟨h0, hnd, hnm, hlen, _⟩ := tree_ns hz
    rw [← hn] at hlen
    have HE := hid (show parentB L H q x.data.toList = (!decide (x.data.toList = []) && decide (x.data.toList ∈ nsOf L)) by unfold parentB; rw [hz]; rfl)
    have AT := hid (fun (W : World) (hW : Below w.heap.size w W) => loggerAt_c (.slice (some ⟨b, o, none⟩) n1 k1) n1 B ls x W (hl.below hW hB))
    have CP := hid (fun (W : World) (hW : Below w.heap.size w W) => specPath_c (some ⟨b, o, none⟩) A2 n1 k1 n2 k2 B q ls x W (hl.below hW hB) (Nat.le_trans hB hW.size) (by omega) (by unfold maxLen; omega) (by rw [hN]; exact h0) (by rw [hN]; exact hnm))
    rw [hN] at CP AT
    have HPS := hid (fun (hm : x.data.toList ∈ nsOf L) (hr : x.data.toList ≠ []) => (show (pathN (nsOf L) x.data.toList)[1]? = some (upN (nsOf L) (nearN (nsOf L) x.data.toList)) from path_second hnm h0 (by rw [(near_self h0 hnd hm).2]; exact hr)))
    have hul : upN (nsOf L) (nearN (nsOf L) x.data.toList) < n1 := by rw [← hlen]; exact near_lt h0 _
    have hcap := hl.1.cap
    unfold maxLen at hcap
    have HV := hid (And.intro hl (And.intro hL hbB))
    clear h hz hl hL hN h0 hnd hnm hlen hn
    generalize hk : upN (nsOf L) (nearN (nsOf L) x.data.toList) = k at *
    clear hk
    go_enter Try.func22, Try.ntmps22
    go_wp2_with fail
    refine (C.out _ ?_).mono ?_
    case refine_1 => go_grown
    rintro e w1 ⟨rfl, hb1⟩
    have K1 := (Blk.new _ _ _).to hb1
    simp only [World.size_alloc] at K1
    have HK1 := hid K1
    have HB1 := hid (Below.trans (by go_grown) (hb1.mono (by simp; try omega)) : Below w.heap.size w w1)
    clear hb1 K1
    by_cases hr : x.data.toList = []
    · have e0 := empty_true hr
      have HF := hid (show parentB L H q x.data.toList = false by rw [HE.out, decide_eq_true hr]; rfl)
      clear hr
      go_wp2_with fail
      go_ret2
      exact ⟨by rw [HP0.out, HF.out]; rfl, HB1.out⟩
    have e0 := empty_false hr
    have d0 := (HK1.out.2 0 _ rfl).1
    have A1 := hid (AT.out w1 HB1.out)
    by_cases hm : x.data.toList ∈ nsOf L
    · have HF := hid (show parentB L H q x.data.toList = true by rw [HE.out, decide_eq_false hr, decide_eq_true hm]; rfl)
      have HX := hid (HPS.out hm hr)
      have hpos : 0 ≤ idxL (nsOf L) x.data.toList := by unfold idxL; rw [if_pos hm]; omega
      generalize hi : idxL (nsOf L) x.data.toList = i at *
      clear hr hm hi
      have d1 := (HK1.out.2 1 _ rfl).1
      have d2 := (HK1.out.2 2 _ rfl).1
      obtain ⟨p, A3, hn', k3, A4, fn, k4, hp, hps, _, _, g0, _⟩ := logger_at HV.out.1 HV.out.2.1 hul
      have HP := hid hp
      have hbw : b < w.heap.size := by have := HV.out.2.2; omega
      have c0 := (HB1.out.cell (p := ⟨b, o + k * 6, none⟩) hbw).trans g0
      have hw1 : w.heap.size < w1.heap.size := HK1.out.1
      have hbr : b < w1.heap.size := by omega
      have t0 : (0 : Int) ≤ (k : Int) := by omega
      have t1 : (k : Int) < (n1 : Int) := by omega
      have t2 : ((k : Int)).toNat = k := by simp
      clear hp hps g0
      go_wp2_with (go_at_call 51; refine (A1.out).mono ?_; rintro e w2 ⟨rfl, hw2⟩; have hw2 := hw2.symm; subst hw2)
      refine wp_region_held_drew (S := (fun w' : World => w'.cell? ⟨w.heap.size, 0, none⟩ = some (.slice (some ⟨b, o, none⟩) n1 k1) ∧ w'.cell? ⟨w.heap.size, 1, none⟩ = some (.slice A2 n2 k2) ∧ w'.cell? ⟨w.heap.size, 2, none⟩ = some (.int .i64 q) ∧ w'.cell? ⟨b, o + k * 6, none⟩ = some (.string p))) (by kernel_rfl) ⟨d0, d1, d2, c0⟩ (fun hS => ?_)
      refine wpAnyH_take (i := 0) (oi := ?oi1) (v := ?v1) ?hi1 (by kernel_rfl) ?hf1 ?hr1 ?hQ1 (Or.inl ⟨?hw1, ?hy1⟩) (by assumption) ?rest1
      case hi1 => simp only [List.getElem?_toArray, List.getElem?_cons_succ, List.getElem?_cons_zero]; rfl
      case hf1 => kernel_rfl
      case hr1 => kernel_rfl
      case hw1 => rfl
      case hy1 => (intro w hSw; (try dsimp only at hSw); go_simp <;> (first | done | with_reducible rfl))
      case hQ1 => exact fun _ _ _ h => h
      simp only [Act.put, List.setIfInBounds_toArray, List.set_cons_zero, List.set_cons_succ]
      refine wpAnyH_take (i := 1) (oi := ?oi2) (v := ?v2) ?hi2 (by kernel_rfl) ?hf2 ?hr2 ?hQ2 (Or.inl ⟨?hw2, ?hy2⟩) (by assumption) ?rest2
      case hi2 => simp only [List.getElem?_toArray, List.getElem?_cons_succ, List.getElem?_cons_zero]; rfl
      case hf2 => kernel_rfl
      case hr2 => kernel_rfl
      case hw2 => rfl
      case hy2 => (intro w hSw; (try dsimp only at hSw); go_simp <;> (first | done | with_reducible rfl))
      case hQ2 => exact fun _ _ _ h => h
      simp only [Act.put, List.setIfInBounds_toArray, List.set_cons_zero, List.set_cons_succ]
      refine wpAnyH_take (i := 2) (oi := ?oi3) (v := ?v3) ?hi3 (by kernel_rfl) ?hf3 ?hr3 ?hQ3 (Or.inl ⟨?hw3, ?hy3⟩) (by assumption) ?rest3
      case hi3 => simp only [List.getElem?_toArray, List.getElem?_cons_succ, List.getElem?_cons_zero]; rfl
      case hf3 => kernel_rfl
      case hr3 => kernel_rfl
      case hw3 => rfl
      case hy3 => (intro w hSw; (try dsimp only at hSw); go_simp <;> (first | done | with_reducible rfl))
      case hQ3 => exact fun _ _ _ h => h
      simp only [Act.put, List.setIfInBounds_toArray, List.set_cons_zero, List.set_cons_succ]
      refine wpAnyH_take (i := 3) (oi := ?oi4) (v := ?v4) ?hi4 (by kernel_rfl) ?hf4 ?hr4 ?hQ4 (Or.inl ⟨?hw4, ?hy4⟩) (by assumption) ?rest4
      case hi4 => simp only [List.getElem?_toArray, List.getElem?_cons_succ, List.getElem?_cons_zero]; rfl
      case hf4 => kernel_rfl
      case hr4 => kernel_rfl
      case hw4 => rfl
      case hy4 => (intro w hSw; (try dsimp only at hSw); go_simp <;> (first | done | with_reducible rfl))
      case hQ4 => exact fun _ _ _ h => h
      simp only [Act.put, List.setIfInBounds_toArray, List.set_cons_zero, List.set_cons_succ]
      refine wpAnyH_ready (rs := [4]) (by kernel_rfl) (by simp) ?_
      refine AllReadyH.cons (o := ?oi5) ?hi5 (fun K hK => ?step5) AllReadyH.nil
      case hi5 => simp only [List.getElem?_toArray, List.getElem?_cons_succ, List.getElem?_cons_zero]; rfl
      rw [if_pos (by rfl)]
      go_simp
      go_at_call 47
      refine (CP.out _ HB1.out.drew).mono ?_
      rintro e w9 ⟨vi, rfl, hoi, hb9⟩
      have hS9 : w9.cell? ⟨w.heap.size, 0, none⟩ = some (.slice (some ⟨b, o, none⟩) n1 k1) ∧ w9.cell? ⟨w.heap.size, 1, none⟩ = some (.slice A2 n2 k2) ∧ w9.cell? ⟨w.heap.size, 2, none⟩ = some (.int .i64 q) ∧ w9.cell? ⟨b, o + k * 6, none⟩ = some (.string p) :=
        ⟨(hb9.cell (p := ⟨w.heap.size, _, none⟩) hw1).trans d0, (hb9.cell (p := ⟨w.heap.size, _, none⟩) hw1).trans d1, (hb9.cell (p := ⟨w.heap.size, _, none⟩) hw1).trans d2, (hb9.cell (p := ⟨b, _, none⟩) hbr).trans c0⟩
      obtain ⟨Ai, ci, rfl, hic, hicm⟩ := (Sl.of_own hoi).form
      unfold maxLen at hicm
      have hl2 : 1 < (pathN (nsOf L) x.data.toList).length := (List.getElem?_eq_some_iff.1 HX.out).1
      obtain ⟨bi, oi, i', rfl, hbi, hxi, ic⟩ := ints_at (Sl.of_own hoi) hl2
      obtain rfl : k = i' := by rw [HX.out] at hxi; exact Option.some.inj hxi
      have HB9 := hid (HB1.out.drew.trans (hb9.mono HB1.out.drew.size))
      refine hK.out _ _ hS9 (fun _ => ?_)
      have u1 : (1 : Int) < ((pathN (nsOf L) x.data.toList).length : Int) := by omega
      clear hoi hb9 hxi
      have hS10 := And.intro hS9 ic
      refine wpAnyH_mono (S' := (fun w' : World => (w'.cell? ⟨w.heap.size, 0, none⟩ = some (.slice (some ⟨b, o, none⟩) n1 k1) ∧ w'.cell? ⟨w.heap.size, 1, none⟩ = some (.slice A2 n2 k2) ∧ w'.cell? ⟨w.heap.size, 2, none⟩ = some (.int .i64 q) ∧ w'.cell? ⟨b, o + k * 6, none⟩ = some (.string p)) ∧ w'.cell? ⟨bi, oi + 1, none⟩ = some (.int .i64 k))) (fun _ h => h.1) _ _ _ _ ?_
      refine wpAnyH_take (i := 5) (oi := ?oi6) (v := ?v6) ?hi6 (by kernel_rfl) ?hf6 ?hr6 ?hQ6 (Or.inl ⟨?hw6, ?hy6⟩) (by assumption) ?rest6
      case hi6 => simp only [List.getElem?_toArray, List.getElem?_cons_succ, List.getElem?_cons_zero]; rfl
      case hf6 => kernel_rfl
      case hr6 => kernel_rfl
      case hw6 => rfl
      case hy6 => (intro w hSw; (try dsimp only at hSw); go_simp <;> (first | done | with_reducible rfl))
      case hQ6 => exact fun _ _ _ h => h
      simp only [Act.put, List.setIfInBounds_toArray, List.set_cons_zero, List.set_cons_succ]
      refine wpAnyH_take (i := 6) (oi := ?oi7) (v := ?v7) ?hi7 (by kernel_rfl) ?hf7 ?hr7 ?hQ7 (Or.inl ⟨?hw7, ?hy7⟩) (by assumption) ?rest7
      case hi7 => simp only [List.getElem?_toArray, List.getElem?_cons_succ, List.getElem?_cons_zero]; rfl
      case hf7 => kernel_rfl
      case hr7 => kernel_rfl
      case hw7 => rfl
      case hy7 => (intro w hSw; (try dsimp only at hSw); go_simp <;> (first | done | with_reducible rfl))
      case hQ7 => exact fun _ _ _ h => h
      simp only [Act.put, List.setIfInBounds_toArray, List.set_cons_zero, List.set_cons_succ]
      refine wpAnyH_take (i := 7) (oi := ?oi8) (v := ?v8) ?hi8 (by kernel_rfl) ?hf8 ?hr8 ?hQ8 (Or.inl ⟨?hw8, ?hy8⟩) (by assumption) ?rest8
      case hi8 => simp only [List.getElem?_toArray, List.getElem?_cons_succ, List.getElem?_cons_zero]; rfl
      case hf8 => kernel_rfl
      case hr8 => kernel_rfl
      case hw8 => rfl
      case hy8 => (intro w hSw; (try dsimp only at hSw); go_simp <;> (first | done | with_reducible rfl))
      case hQ8 => exact fun _ _ _ h => h
      simp only [Act.put, List.setIfInBounds_toArray, List.set_cons_zero, List.set_cons_succ]
      refine wpAnyH_take (i := 8) (oi := ?oi9) (v := ?v9) ?hi9 (by kernel_rfl) ?hf9 ?hr9 ?hQ9 (Or.inl ⟨?hw9, ?hy9⟩) (by assumption) ?rest9
      case hi9 => simp only [List.getElem?_toArray, List.getElem?_cons_succ, List.getElem?_cons_zero]; rfl
      case hf9 => kernel_rfl
      case hr9 => kernel_rfl
      case hw9 => rfl
      case hy9 => (intro w hSw; (try dsimp only at hSw); go_simp <;> (first | done | with_reducible rfl))
      case hQ9 => exact fun _ _ _ h => h
      simp only [Act.put, List.setIfInBounds_toArray, List.set_cons_zero, List.set_cons_succ]
      refine wpAnyH_take (i := 9) (oi := ?oi10) (v := ?v10) ?hi10 (by kernel_rfl) ?hf10 ?hr10 ?hQ10 (Or.inl ⟨?hw10, ?hy10⟩) (by assumption) ?rest10
      case hi10 => simp only [List.getElem?_toArray, List.getElem?_cons_succ, List.getElem?_cons_zero]; rfl
      case hf10 => kernel_rfl
      case hr10 => kernel_rfl
      case hw10 => rfl
      case hy10 => (intro w hSw; (try dsimp only at hSw); go_simp <;> (first | done | with_reducible rfl))
      case hQ10 => exact fun _ _ _ h => h
      simp only [Act.put, List.setIfInBounds_toArray, List.set_cons_zero, List.set_cons_succ]
      refine wpAnyH_take (i := 10) (oi := ?oi11) (v := ?v11) ?hi11 (by kernel_rfl) ?hf11 ?hr11 ?hQ11 (Or.inl ⟨?hw11, ?hy11⟩) (by assumption) ?rest11
      case hi11 => simp only [List.getElem?_toArray, List.getElem?_cons_succ, List.getElem?_cons_zero]; rfl
      case hf11 => kernel_rfl
      case hr11 => kernel_rfl
      case hw11 => rfl
      case hy11 => (intro w hSw; (try dsimp only at hSw); go_simp <;> (first | done | with_reducible rfl))
      case hQ11 => exact fun _ _ _ h => h
      simp only [Act.put, List.setIfInBounds_toArray, List.set_cons_zero, List.set_cons_succ]
      refine wpAnyH_take (i := 11) (oi := ?oi12) (v := ?v12) ?hi12 (by kernel_rfl) ?hf12 ?hr12 ?hQ12 (Or.inl ⟨?hw12, ?hy12⟩) (by assumption) ?rest12
      case hi12 => simp only [List.getElem?_toArray, List.getElem?_cons_succ, List.getElem?_cons_zero]; rfl
      case hf12 => kernel_rfl
      case hr12 => kernel_rfl
      case hw12 => rfl
      case hy12 => (intro w hSw; (try dsimp only at hSw); go_simp <;> (first | done | with_reducible rfl))
      case hQ12 => exact fun _ _ _ h => h
      simp only [Act.put, List.setIfInBounds_toArray, List.set_cons_zero, List.set_cons_succ]
      refine wpAnyH_done (by kernel_rfl) ?_ _
      go_wp2_with fail
      go_ret2
      refine ⟨?_, HB9.out⟩
      rw [HP0.out, HF.out, if_pos rfl, ← HP.out, txt_data]; rfl
    · have HF := hid (show parentB L H q x.data.toList = false by rw [HE.out, decide_eq_false hm, Bool.and_false])
      have hneg : idxL (nsOf L) x.data.toList < 0 := by rw [idx_neg]; exact hm
      generalize hi : idxL (nsOf L) x.data.toList = i at *
      clear hr hm hi
      go_wp2_with (go_at_call 51; refine (A1.out).mono ?_; rintro e w2 ⟨rfl, hw2⟩; have hw2 := hw2.symm; subst hw2)
      go_ret2
      exact ⟨by rw [HP0.out, HF.out]; rfl, HB1.out⟩
end Go.Proofs.Ytlhelhfaogcibaa
