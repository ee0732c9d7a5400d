/-
  WALKS: the model's BranchOf, ChildrenOf.
-/
import Derived.Test.YtlhelhfaogcibaaN13
namespace Go.Proofs.Ytlhelhfaogcibaa
open Go.RowKit Nm
set_option linter.unusedSimpArgs false
set_option linter.unusedVariables false

set_option maxHeartbeats 4000000 in
set_option maxRecDepth 100000 in
theorem specBranchOf_c {w : World} {B : Nat} {v : Value} {L : List Lgr} {H : List Hnd} {q : Int} (x : ByteArray) (h : TreeIn w B v L H q) (hB : B ≤ w.heap.size) (hx : x.size ≤ maxTxt) :
    Calls Try.prog 26 #[v, .string x] w (StrsPost w (branchT L H q x.data.toList)) := by
  unfold maxTxt at hx
  have C := hid (fun (W : World) (hW : Below w.heap.size w W) => specTreeX_c (h.below hW hB) (Nat.le_trans hB hW.size))
  have V := hid (fun (W : World) => validName_c x W hx)
  cases hz : treeOk L H q with
  | false =>
    have HE := hid (show branchT L H q x.data.toList = [] by unfold branchT; rw [hz]; rfl)
    obtain ⟨A1, n1, k1, A2, n2, k2, rfl⟩ := h.form
    rw [hz] at C
    clear h hz
    go_enter Try.func26, Try.ntmps26
    go_wp2_with fail
    refine (C.out _ ?_).mono ?_
    case refine_1 => go_grown
    rintro e w1 ⟨rfl, hb1⟩
    have HB1 := hid (Below.trans (by go_grown) (hb1.mono (by simp; try omega)) : Below w.heap.size w w1)
    clear hb1
    go_wp2_with fail
    go_ret
    exact ⟨_, rfl, by rw [HE.out]; exact World.ownsRow_nil _ _ _ _, HB1.out⟩
  | true =>
    rw [hz] at C
    obtain ⟨b, o, n1, k1, A2, n2, k2, ls, rfl, hl, hL, hN, hn, hn8, hn1, hbB⟩ := h.opened hz
    have HEf := hid (fun (hy : nameOk x.data.toList = false) => (show branchT L H q x.data.toList = [] by unfold branchT; rw [hz, hy]; rfl))
    have HEt := hid (fun (hy : nameOk x.data.toList = true) => (show branchT L H q x.data.toList = (nsOf L).filter (fun y => belowL y x.data.toList) by unfold branchT; rw [hz, hy]; rfl))
    have hlen := (tree_ns hz).2.2.2.1
    rw [← hn] at hlen
    have hcap := hl.1.cap
    unfold maxLen at hcap
    have HV := hid (And.intro hl (And.intro hL (And.intro hlen hbB)))
    clear h hz hl hN hn hL hlen
    go_enter Try.func26, Try.ntmps26
    go_wp2_with fail
    refine (C.out _ ?_).mono ?_
    case refine_1 => go_grown
    rintro e w1 ⟨rfl, hb1⟩
    have K1 := (Blk.new _ _ _).to hb1
    simp only [World.size_alloc] at K1
    have HK1 := hid K1
    have HB1 := hid (Below.trans (by go_grown) (hb1.mono (by simp; try omega)) : Below w.heap.size w w1)
    clear hb1 K1
    cases hy : nameOk x.data.toList with
    | false =>
      rw [hy] at V
      have HE := hid (HEf.out hy)
      clear hy
      go_wp2_with fail
      refine (V.out _).mono ?_
      rintro e w2 ⟨rfl, hb2⟩
      have HB2 := hid (HB1.out.trans (hb2.mono HB1.out.size))
      clear hb2
      go_wp2_with fail
      go_ret
      exact ⟨_, rfl, by rw [HE.out]; exact World.ownsRow_nil _ _ _ _, HB2.out⟩
    | true =>
      rw [hy] at V
      have HE := hid (HEt.out hy)
      clear hy
      go_wp2_with fail
      refine (V.out _).mono ?_
      rintro e w2 ⟨rfl, hb2⟩
      have HB2 := hid (HB1.out.trans (hb2.mono HB1.out.size))
      have HK2 := hid (HK1.out.to hb2)
      have hw2 : w.heap.size < w2.heap.size := HK2.out.1
      clear hb2
      go_wp2_with fail
      go_loopw [5, 6] (fun sv iv wr => ∃ (k : Nat), iv = .int .i64 k ∧ k ≤ n1 ∧ wr.ownsRow w2.heap.size 9 1 sv (takeF (fun y => belowL y x.data.toList) (nsOf L) k).length ((takeF (fun y => belowL y x.data.toList) (nsOf L) k).map txt) ∧ Hid (Below w2.heap.size w2 wr)) (fun _ iv _ => n1 - (intOf iv).toNat)
      case atStart => exact ⟨0, rfl, by omega, World.ownsRow_lit w2 #[] 0 (Nat.le_refl _) (by unfold maxLen; omega) rfl, (Below.refl _ _).alloc (Nat.le_refl _) _⟩
      case round =>
        obtain ⟨k, rfl, hk, hown, HBx⟩ := hrel
        have hfl := takeF_len (fun y => belowL y x.data.toList) (nsOf L) k
        obtain ⟨Ax, cx, rfl, _, _⟩ := (Sl.of_own hown).form
        have HO := hid hown
        clear hown
        have HW := hid (HB2.out.trans (HBx.out.mono HB2.out.size))
        have d0 := ((HK2.out.below HBx.out hw2).2 0 _ rfl).1
        by_cases hlt : k < n1
        · obtain ⟨p, A3, hn', k3, A4, fn, k4, hp, hps, _, _, c0, c1, c2, c3, c4, c5⟩ := logger_at (HV.out.1.below HW.out hB) HV.out.2.1 hlt
          have HX := hid (show (nsOf L)[k]? = some p.data.toList by rw [hp]; exact getD_at (by rw [HV.out.2.2.1]; exact hlt))
          have IB := hid (fun W => specBelow_c p x W (by unfold maxTxt at hps; unfold maxLen; omega) (by unfold maxLen; omega))
          clear hp hps
          cases hb : belowL p.data.toList x.data.toList with
          | false =>
            rw [hb] at IB
            have HF := hid (show takeF (fun y => belowL y x.data.toList) (nsOf L) (k + 1) = takeF (fun y => belowL y x.data.toList) (nsOf L) k from takeF_miss HX.out hb)
            clear hb
            go_wp2_with (go_at_call 54; refine (IB.out _).mono ?_; rintro e w3 ⟨rfl, hw3⟩; have hw3 := hw3.symm; subst hw3)
            go_roundw
            case rel => exact ⟨k + 1, by go_num, by omega, by rw [HF.out]; exact HO.out, HBx.out⟩
            case measure => simp [intOf]; omega
          | true =>
            rw [hb] at IB
            have HF := hid (show takeF (fun y => belowL y x.data.toList) (nsOf L) (k + 1) = takeF (fun y => belowL y x.data.toList) (nsOf L) k ++ [p.data.toList] from takeF_hit HX.out hb)
            clear hb
            go_wp2_with (first | (go_at_call 54; refine (IB.out _).mono ?_; rintro e w3 ⟨rfl, hw3⟩; have hw3 := hw3.symm; subst hw3) | (at_builtin; (refine appText _ rfl (.tmp 31) (.tmp 38) rfl w2.heap.size _ (takeF (fun y => belowL y x.data.toList) (nsOf L) k) (by rfl) HO.out p _ _ _ (by rfl) (by simp) (by omega) HBx.out.size ?_)))
            intro v' w4 ho4 hb4
            have HO4 := hid ho4
            have HB4 := hid (HBx.out.trans hb4)
            clear ho4 hb4
            go_wp2_with fail
            go_roundw
            case rel => exact ⟨k + 1, by go_num, by omega, by rw [HF.out]; simpa using HO4.out, HB4.out⟩
            case measure => simp [intOf]; omega
        · obtain rfl : k = n1 := by omega
          have HF := hid (show branchT L H q x.data.toList = takeF (fun y => belowL y x.data.toList) (nsOf L) k by rw [HE.out, takeF_all (by rw [HV.out.2.2.1]; exact Nat.le_refl _)])
          go_wp2_with fail
          go_ret
          exact ⟨_, rfl, by rw [HF.out]; exact own_base HO.out HB2.out.size, HW.out⟩

theorem eq_boolN (a b : ByteArray) : ∃ z, (a.toList == b.toList) = z ∧ decide (a.data.toList = b.data.toList) = z := ⟨_, rfl, (beq_txt a b).symm⟩

set_option maxHeartbeats 8000000 in
set_option maxRecDepth 100000 in
theorem specChildrenOf_c {w : World} {B : Nat} {v : Value} {L : List Lgr} {H : List Hnd} {q : Int} (x : ByteArray) (h : TreeIn w B v L H q) (hB : B ≤ w.heap.size) :
    Calls Try.prog 24 #[v, .string x] w (StrsPost w (childrenT L H q x.data.toList)) := by
  have C := hid (fun (W : World) (hW : Below w.heap.size w W) => specTreeX_c (h.below hW hB) (Nat.le_trans hB hW.size))
  cases hz : treeOk L H q with
  | false =>
    have HE := hid (show childrenT L H q x.data.toList = [] by unfold childrenT; rw [hz]; rfl)
    obtain ⟨A1, n1, k1, A2, n2, k2, rfl⟩ := h.form
    rw [hz] at C
    clear h hz
    go_enter Try.func24, Try.ntmps24
    go_wp2_with fail
    refine (C.out _ ?_).mono ?_
    case refine_1 => go_grown
    rintro e w1 ⟨rfl, hb1⟩
    have HB1 := hid (Below.trans (by go_grown) (hb1.mono (by simp; try omega)) : Below w.heap.size w w1)
    clear hb1
    go_wp2_with fail
    go_ret
    exact ⟨_, rfl, by rw [HE.out]; exact World.ownsRow_nil _ _ _ _, HB1.out⟩
  | true =>
    rw [hz] at C
    obtain ⟨b, o, n1, k1, A2, n2, k2, ls, rfl, hl, hL, hN, hn, hn8, hn1, hbB⟩ := h.opened hz
    obtain ⟨h0, hnd, hnm, hlen, _⟩ := tree_ns hz
    rw [← hn] at hlen
    have HE := hid (show childrenT L H q x.data.toList = (nsOf L).filter (childOk (nsOf L) x.data.toList) by unfold childrenT; rw [hz]; rfl)
    have CP := hid (fun (y : ByteArray) (hy : y.size ≤ maxLen) (W : World) (hW : Below w.heap.size w W) => specPath_c (some ⟨b, o, none⟩) A2 n1 k1 n2 k2 B q ls y W (hl.below hW hB) (Nat.le_trans hB hW.size) (by omega) hy (by rw [hN]; exact h0) (by rw [hN]; exact hnm))
    rw [hN] at CP
    have hcap := hl.1.cap
    unfold maxLen at hcap
    have HV := hid (And.intro hl (And.intro hL (And.intro hlen (And.intro hbB (And.intro h0 (And.intro hnd hnm))))))
    clear h hz hl hN hn hL hlen h0 hnd hnm
    go_enter Try.func24, Try.ntmps24
    go_wp2_with fail
    refine (C.out _ ?_).mono ?_
    case refine_1 => go_grown
    rintro e w1 ⟨rfl, hb1⟩
    have K1 := (Blk.new _ _ _).to hb1
    simp only [World.size_alloc] at K1
    have HK1 := hid K1
    have HB1 := hid (Below.trans (by go_grown) (hb1.mono (by simp; try omega)) : Below w.heap.size w w1)
    have hw1 : w.heap.size < w1.heap.size := HK1.out.1
    clear hb1 K1
    go_wp2_with fail
    go_loopw [5, 6] (fun sv iv wr => ∃ (k : Nat), iv = .int .i64 k ∧ 1 ≤ k ∧ k ≤ n1 ∧ wr.ownsRow w1.heap.size 9 1 sv (takeF (childOk (nsOf L) x.data.toList) (nsOf L) k).length ((takeF (childOk (nsOf L) x.data.toList) (nsOf L) k).map txt) ∧ Hid (Below w1.heap.size w1 wr)) (fun _ iv _ => n1 - (intOf iv).toNat)
    case atStart =>
      refine ⟨1, rfl, by omega, by omega, ?_, (Below.refl _ _).alloc (Nat.le_refl _) _⟩
      rw [takeF_miss HV.out.2.2.2.2.1 rfl]
      exact World.ownsRow_lit w1 #[] 0 (Nat.le_refl _) (by unfold maxLen; omega) rfl
    case round =>
      obtain ⟨k, rfl, hk1, hk, hown, HBx⟩ := hrel
      have hfl := takeF_len (childOk (nsOf L) x.data.toList) (nsOf L) k
      obtain ⟨Ax, cx, rfl, _, _⟩ := (Sl.of_own hown).form
      have HO := hid hown
      clear hown
      have HW := hid (HB1.out.trans (HBx.out.mono HB1.out.size))
      have HKx := hid (HK1.out.below HBx.out hw1)
      have d0 := (HKx.out.2 0 _ rfl).1
      by_cases hlt : k < n1
      · obtain ⟨p, A3, hn', k3, A4, fn, k4, hp, hps, _, _, g0, _⟩ := logger_at HV.out.1 HV.out.2.1 hlt
        have hpm : p.size ≤ maxLen := by unfold maxTxt at hps; unfold maxLen; omega
        have hul : upN (nsOf L) k < n1 := by rw [← HV.out.2.2.1]; exact near_lt HV.out.2.2.2.2.1 _
        obtain ⟨p', A3', hn'', k3', A4', fn', k4', hp', hps', _, _, g0', _⟩ := logger_at HV.out.1 HV.out.2.1 hul
        have hlen := HV.out.2.2.1
        have hr : p.data.toList ≠ [] := by
          intro e
          have e2 : (nsOf L).getD k [] = (nsOf L).getD 0 [] := by rw [← hp, e]; exact (at_getD HV.out.2.2.2.2.1).symm
          have := nodup_at HV.out.2.2.2.2.2.1 (by rw [hlen]; exact hlt) (by rw [hlen]; omega) e2
          omega
        have HX := hid (show (nsOf L)[k]? = some p.data.toList by rw [hp]; exact getD_at (by rw [hlen]; exact hlt))
        have hnear : nearN (nsOf L) p.data.toList = k := near_hit HV.out.2.2.2.2.1 HV.out.2.2.2.2.2.1 _ _ HX.out
        have HC := hid (show childOk (nsOf L) x.data.toList p.data.toList = decide (p'.data.toList = x.data.toList) by
          unfold childOk; rw [decide_eq_false hr, hp', hp]; rfl)
        have HPS := hid (show (pathN (nsOf L) p.data.toList)[1]? = some (upN (nsOf L) k) by
          have := path_second HV.out.2.2.2.2.2.2 HV.out.2.2.2.2.1 (x := p.data.toList) (by rw [hnear, ← hp]; exact hr)
          rwa [hnear] at this)
        have hbw : b < w.heap.size := by have := HV.out.2.2.2.1; omega
        have c0 := (HW.out.cell (p := ⟨b, o + k * 6, none⟩) hbw).trans g0
        have c0' := (HW.out.cell (p := ⟨b, o + upN (nsOf L) k * 6, none⟩) hbw).trans g0'
        have d1 := (HKx.out.2 1 _ rfl).1
        have d2 := (HKx.out.2 2 _ rfl).1
        have hwr : w.heap.size < wr.heap.size := HKx.out.1
        have hbr : b < wr.heap.size := by omega
        have CPp := hid (CP.out p hpm)
        clear hr hp hps hp' hps' g0 g0' hnear hlen
        generalize hu : upN (nsOf L) k = u at *
        clear hu
        obtain ⟨zq, e1, f1⟩ := eq_boolN p' x
        have F1 := hid f1
        clear f1
        have t0 : (0 : Int) ≤ (u : Int) := by omega
        have t1 : (u : Int) < (n1 : Int) := by omega
        have t2 : ((u : Int)).toNat = u := by simp
        go_wp2_with fail
        refine wp_region_held_drew (S := (fun w' : World => w'.cell? ⟨w.heap.size, 0, none⟩ = some (.slice (some ⟨b, o, none⟩) n1 k1) ∧ w'.cell? ⟨w.heap.size, 1, none⟩ = some (.slice A2 n2 k2) ∧ w'.cell? ⟨w.heap.size, 2, none⟩ = some (.int .i64 q) ∧ w'.cell? ⟨b, o + u * 6, none⟩ = some (.string p'))) (by kernel_rfl) ⟨d0, d1, d2, c0'⟩ (fun hS => ?_)
        refine wpAnyH_take (i := 0) (oi := ?oi1) (v := ?v1) ?hi1 (by kernel_rfl) ?hf1 ?hr1 ?hQ1 (Or.inl ⟨?hw1, ?hy1⟩) (by assumption) ?rest1
        case hi1 => simp only [List.getElem?_toArray, List.getElem?_cons_succ, List.getElem?_cons_zero]; rfl
        case hf1 => kernel_rfl
        case hr1 => kernel_rfl
        case hw1 => rfl
        case hy1 => (intro w hSw; (try dsimp only at hSw); go_simp <;> (first | done | with_reducible rfl))
        case hQ1 => exact fun _ _ _ h => h
        simp only [Act.put, List.setIfInBounds_toArray, List.set_cons_zero, List.set_cons_succ]
        refine wpAnyH_take (i := 1) (oi := ?oi2) (v := ?v2) ?hi2 (by kernel_rfl) ?hf2 ?hr2 ?hQ2 (Or.inl ⟨?hw2, ?hy2⟩) (by assumption) ?rest2
        case hi2 => simp only [List.getElem?_toArray, List.getElem?_cons_succ, List.getElem?_cons_zero]; rfl
        case hf2 => kernel_rfl
        case hr2 => kernel_rfl
        case hw2 => rfl
        case hy2 => (intro w hSw; (try dsimp only at hSw); go_simp <;> (first | done | with_reducible rfl))
        case hQ2 => exact fun _ _ _ h => h
        simp only [Act.put, List.setIfInBounds_toArray, List.set_cons_zero, List.set_cons_succ]
        refine wpAnyH_take (i := 2) (oi := ?oi3) (v := ?v3) ?hi3 (by kernel_rfl) ?hf3 ?hr3 ?hQ3 (Or.inl ⟨?hw3, ?hy3⟩) (by assumption) ?rest3
        case hi3 => simp only [List.getElem?_toArray, List.getElem?_cons_succ, List.getElem?_cons_zero]; rfl
        case hf3 => kernel_rfl
        case hr3 => kernel_rfl
        case hw3 => rfl
        case hy3 => (intro w hSw; (try dsimp only at hSw); go_simp <;> (first | done | with_reducible rfl))
        case hQ3 => exact fun _ _ _ h => h
        simp only [Act.put, List.setIfInBounds_toArray, List.set_cons_zero, List.set_cons_succ]
        refine wpAnyH_take (i := 3) (oi := ?oi4) (v := ?v4) ?hi4 (by kernel_rfl) ?hf4 ?hr4 ?hQ4 (Or.inl ⟨?hw4, ?hy4⟩) (by assumption) ?rest4
        case hi4 => simp only [List.getElem?_toArray, List.getElem?_cons_succ, List.getElem?_cons_zero]; rfl
        case hf4 => kernel_rfl
        case hr4 => kernel_rfl
        case hw4 => rfl
        case hy4 => (intro w hSw; (try dsimp only at hSw); go_simp <;> (first | done | with_reducible rfl))
        case hQ4 => exact fun _ _ _ h => h
        simp only [Act.put, List.setIfInBounds_toArray, List.set_cons_zero, List.set_cons_succ]
        refine wpAnyH_take (i := 10) (oi := ?oi5) (v := ?v5) ?hi5 (by kernel_rfl) ?hf5 ?hr5 ?hQ5 (Or.inl ⟨?hw5, ?hy5⟩) (by assumption) ?rest5
        case hi5 => simp only [List.getElem?_toArray, List.getElem?_cons_succ, List.getElem?_cons_zero]; rfl
        case hf5 => kernel_rfl
        case hr5 => kernel_rfl
        case hw5 => rfl
        case hy5 => (intro w hSw; (try dsimp only at hSw); go_simp <;> (first | done | with_reducible rfl))
        case hQ5 => exact fun _ _ _ h => h
        simp only [Act.put, List.setIfInBounds_toArray, List.set_cons_zero, List.set_cons_succ]
        refine wpAnyH_ready (rs := [4]) (by kernel_rfl) (by simp) ?_
        refine AllReadyH.cons (o := ?oi6) ?hi6 (fun K hK => ?step6) AllReadyH.nil
        case hi6 => simp only [List.getElem?_toArray, List.getElem?_cons_succ, List.getElem?_cons_zero]; rfl
        rw [if_pos (by rfl)]
        go_simp
        go_at_call 47
        refine (CPp.out _ HW.out.drew).mono ?_
        rintro e w9 ⟨vi, rfl, hoi, hb9⟩
        have hS9 : w9.cell? ⟨w.heap.size, 0, none⟩ = some (.slice (some ⟨b, o, none⟩) n1 k1) ∧ w9.cell? ⟨w.heap.size, 1, none⟩ = some (.slice A2 n2 k2) ∧ w9.cell? ⟨w.heap.size, 2, none⟩ = some (.int .i64 q) ∧ w9.cell? ⟨b, o + u * 6, none⟩ = some (.string p') :=
          ⟨(hb9.cell (p := ⟨w.heap.size, _, none⟩) hwr).trans d0, (hb9.cell (p := ⟨w.heap.size, _, none⟩) hwr).trans d1, (hb9.cell (p := ⟨w.heap.size, _, none⟩) hwr).trans d2, (hb9.cell (p := ⟨b, _, none⟩) hbr).trans c0'⟩
        obtain ⟨Ai, ci, rfl, hic, hicm⟩ := (Sl.of_own hoi).form
        unfold maxLen at hicm
        have hl2 : 1 < (pathN (nsOf L) p.data.toList).length := (List.getElem?_eq_some_iff.1 HPS.out).1
        obtain ⟨bi, oi, i', rfl, hbi, hxi, ic⟩ := ints_at (Sl.of_own hoi) hl2
        obtain rfl : u = i' := by rw [HPS.out] at hxi; exact Option.some.inj hxi
        have HB9 := hid (HBx.out.drew.trans (hb9.mono HBx.out.drew.size))
        have HO9 := hid (own_below HO.out.drew hb9)
        refine hK.out _ _ hS9 (fun _ => ?_)
        have u1 : (1 : Int) < ((pathN (nsOf L) p.data.toList).length : Int) := by omega
        clear hoi hb9 hxi
        have hS10 := And.intro hS9 ic
        refine wpAnyH_mono (S' := (fun w' : World => (w'.cell? ⟨w.heap.size, 0, none⟩ = some (.slice (some ⟨b, o, none⟩) n1 k1) ∧ w'.cell? ⟨w.heap.size, 1, none⟩ = some (.slice A2 n2 k2) ∧ w'.cell? ⟨w.heap.size, 2, none⟩ = some (.int .i64 q) ∧ w'.cell? ⟨b, o + u * 6, none⟩ = some (.string p')) ∧ w'.cell? ⟨bi, oi + 1, none⟩ = some (.int .i64 u))) (fun _ h => h.1) _ _ _ _ ?_
        refine wpAnyH_take (i := 5) (oi := ?oi7) (v := ?v7) ?hi7 (by kernel_rfl) ?hf7 ?hr7 ?hQ7 (Or.inl ⟨?hw7, ?hy7⟩) (by assumption) ?rest7
        case hi7 => simp only [List.getElem?_toArray, List.getElem?_cons_succ, List.getElem?_cons_zero]; rfl
        case hf7 => kernel_rfl
        case hr7 => kernel_rfl
        case hw7 => rfl
        case hy7 => (intro w hSw; (try dsimp only at hSw); go_simp <;> (first | done | with_reducible rfl))
        case hQ7 => exact fun _ _ _ h => h
        simp only [Act.put, List.setIfInBounds_toArray, List.set_cons_zero, List.set_cons_succ]
        refine wpAnyH_take (i := 6) (oi := ?oi8) (v := ?v8) ?hi8 (by kernel_rfl) ?hf8 ?hr8 ?hQ8 (Or.inl ⟨?hw8, ?hy8⟩) (by assumption) ?rest8
        case hi8 => simp only [List.getElem?_toArray, List.getElem?_cons_succ, List.getElem?_cons_zero]; rfl
        case hf8 => kernel_rfl
        case hr8 => kernel_rfl
        case hw8 => rfl
        case hy8 => (intro w hSw; (try dsimp only at hSw); go_simp <;> (first | done | with_reducible rfl))
        case hQ8 => exact fun _ _ _ h => h
        simp only [Act.put, List.setIfInBounds_toArray, List.set_cons_zero, List.set_cons_succ]
        refine wpAnyH_take (i := 7) (oi := ?oi9) (v := ?v9) ?hi9 (by kernel_rfl) ?hf9 ?hr9 ?hQ9 (Or.inl ⟨?hw9, ?hy9⟩) (by assumption) ?rest9
        case hi9 => simp only [List.getElem?_toArray, List.getElem?_cons_succ, List.getElem?_cons_zero]; rfl
        case hf9 => kernel_rfl
        case hr9 => kernel_rfl
        case hw9 => rfl
        case hy9 => (intro w hSw; (try dsimp only at hSw); go_simp <;> (first | done | with_reducible rfl))
        case hQ9 => exact fun _ _ _ h => h
        simp only [Act.put, List.setIfInBounds_toArray, List.set_cons_zero, List.set_cons_succ]
        refine wpAnyH_take (i := 8) (oi := ?oi10) (v := ?v10) ?hi10 (by kernel_rfl) ?hf10 ?hr10 ?hQ10 (Or.inl ⟨?hw10, ?hy10⟩) (by assumption) ?rest10
        case hi10 => simp only [List.getElem?_toArray, List.getElem?_cons_succ, List.getElem?_cons_zero]; rfl
        case hf10 => kernel_rfl
        case hr10 => kernel_rfl
        case hw10 => rfl
        case hy10 => (intro w hSw; (try dsimp only at hSw); go_simp <;> (first | done | with_reducible rfl))
        case hQ10 => exact fun _ _ _ h => h
        simp only [Act.put, List.setIfInBounds_toArray, List.set_cons_zero, List.set_cons_succ]
        refine wpAnyH_take (i := 9) (oi := ?oi11) (v := ?v11) ?hi11 (by kernel_rfl) ?hf11 ?hr11 ?hQ11 (Or.inl ⟨?hw11, ?hy11⟩) (by assumption) ?rest11
        case hi11 => simp only [List.getElem?_toArray, List.getElem?_cons_succ, List.getElem?_cons_zero]; rfl
        case hf11 => kernel_rfl
        case hr11 => kernel_rfl
        case hw11 => rfl
        case hy11 => (intro w hSw; (try dsimp only at hSw); go_simp <;> (first | done | with_reducible rfl))
        case hQ11 => exact fun _ _ _ h => h
        simp only [Act.put, List.setIfInBounds_toArray, List.set_cons_zero, List.set_cons_succ]
        refine wpAnyH_take (i := 11) (oi := ?oi12) (v := ?v12) ?hi12 (by kernel_rfl) ?hf12 ?hr12 ?hQ12 (Or.inl ⟨?hw12, ?hy12⟩) (by assumption) ?rest12
        case hi12 => simp only [List.getElem?_toArray, List.getElem?_cons_succ, List.getElem?_cons_zero]; rfl
        case hf12 => kernel_rfl
        case hr12 => kernel_rfl
        case hw12 => rfl
        case hy12 => (intro w hSw; (try dsimp only at hSw); go_simp <;> (first | done | with_reducible rfl))
        case hQ12 => exact fun _ _ _ h => h
        simp only [Act.put, List.setIfInBounds_toArray, List.set_cons_zero, List.set_cons_succ]
        refine wpAnyH_done (by kernel_rfl) ?_ _
        clear hS hS9 hS10 ic d0 d1 d2 c0 c0'
        clear e1
        cases zq with
        | true =>
          have HF := hid (show takeF (childOk (nsOf L) x.data.toList) (nsOf L) (k + 1) = takeF (childOk (nsOf L) x.data.toList) (nsOf L) k ++ [p.data.toList] from takeF_hit HX.out (by rw [HC.out, F1.out]))
          go_wp2_with (at_builtin; (refine appText _ rfl (.tmp 37) (.tmp 39) rfl w1.heap.size _ (takeF (childOk (nsOf L) x.data.toList) (nsOf L) k) (by rfl) HO9.out p _ _ _ (by rfl) (by simp) (by omega) HB9.out.size ?_))
          intro v' w4 ho4 hb4
          have HO4 := hid ho4
          have HB4 := hid (HB9.out.trans hb4)
          clear ho4 hb4
          go_wp2_with fail
          go_roundw
          case rel => exact ⟨k + 1, by go_num, by omega, by omega, by rw [HF.out]; simpa using HO4.out, HB4.out⟩
          case measure => simp [intOf]; omega
        | false =>
          have HF := hid (show takeF (childOk (nsOf L) x.data.toList) (nsOf L) (k + 1) = takeF (childOk (nsOf L) x.data.toList) (nsOf L) k from takeF_miss HX.out (by rw [HC.out, F1.out]))
          go_wp2_with fail
          go_roundw
          case rel => exact ⟨k + 1, by go_num, by omega, by omega, by rw [HF.out]; exact HO9.out, HB9.out⟩
          case measure => simp [intOf]; omega
      · obtain rfl : k = n1 := by omega
        have HF := hid (show childrenT L H q x.data.toList = takeF (childOk (nsOf L) x.data.toList) (nsOf L) k by rw [HE.out, takeF_all (by rw [HV.out.2.2.1]; exact Nat.le_refl _)])
        go_wp2_with fail
        go_ret
        exact ⟨_, rfl, by rw [HF.out]; exact own_base HO.out HB1.out.size, HW.out⟩
end Go.Proofs.Ytlhelhfaogcibaa
