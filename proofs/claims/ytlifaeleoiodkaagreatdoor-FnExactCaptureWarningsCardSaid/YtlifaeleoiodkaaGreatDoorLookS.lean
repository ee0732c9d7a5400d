/-
  N12, N13, N14, N15 laid together.
-/
import Derived.Test.YtlifaeleoiodkaaGreatDoorLookI
import Derived.Test.YtlifaeleoiodkaaGreatDoorHelps
import Derived.StillTailTactics
import Derived.Deep.RegionHeld3
/-
  WALKS: the model's NearestTo, PathOf, ParentOf.
-/
namespace Go.Proofs.YtlifaeleoiodkaaGreatDoor
open Go.RowKit Nm
set_option linter.unusedSimpArgs false
set_option linter.unusedVariables false

end Go.Proofs.YtlifaeleoiodkaaGreatDoor

/-
  WALKS: the model's ParentOf, BranchOf, ChildrenOf.
-/
namespace Go.Proofs.YtlifaeleoiodkaaGreatDoor
open Go.RowKit Nm
set_option linter.unusedSimpArgs false
set_option linter.unusedVariables false

theorem path_second {ns : List Name} (hok : ∀ z ∈ ns, nameOk z = true) (h0 : ns[0]? = some []) {x : Name} (hr : ns.getD (nearN ns x) [] ≠ []) : (pathN ns x)[1]? = some (upN ns (nearN ns x)) := by
  unfold pathN
  obtain ⟨g, hg, e⟩ := pathF_up (ns := ns) (f := 4) hr (depth_le hok _)
  rw [e]
  cases g with
  | zero => omega
  | succ g => simp only [List.getElem?_cons_succ, pathF]; split <;> rfl
theorem near_self {ns : List Name} (h0 : ns[0]? = some []) (hn : ns.Nodup) {x : Name} (hm : x ∈ ns) : nearN ns x < ns.length ∧ ns.getD (nearN ns x) [] = x := by
  obtain ⟨j, hj, e⟩ := List.getElem_of_mem hm
  have e2 : ns[j]? = some x := by rw [List.getElem?_eq_getElem hj, e]
  rw [near_hit h0 hn _ _ e2]
  exact ⟨hj, at_getD e2⟩

end Go.Proofs.YtlifaeleoiodkaaGreatDoor

/-
  WALKS: the model's BranchOf, ChildrenOf.
-/
namespace Go.Proofs.YtlifaeleoiodkaaGreatDoor
open Go.RowKit Nm
set_option linter.unusedSimpArgs false
set_option linter.unusedVariables false

theorem eq_boolN (a b : ByteArray) : ∃ z, (a.toList == b.toList) = z ∧ decide (a.data.toList = b.data.toList) = z := ⟨_, rfl, (beq_txt a b).symm⟩

end Go.Proofs.YtlifaeleoiodkaaGreatDoor

/-
  WALKS: the model's effective, EffectiveLevel, enabled, IsEnabled.
-/
namespace Go.Proofs.YtlifaeleoiodkaaGreatDoor
open Go.RowKit Nm
set_option linter.unusedSimpArgs false
set_option linter.unusedVariables false

theorem txt_len {n : Nat} (h : n ≤ maxTxt) : n ≤ maxLen := by unfold maxTxt at h; unfold maxLen; omega
theorem lvAt_nonneg {L : List Lgr} (h : ∀ l ∈ L, 0 ≤ l.lv) (k : Nat) : 0 ≤ lvAt L k := by
  unfold lvAt
  by_cases hk : k < L.length
  · have e : (L.map (·.lv)).getD k 0 = L[k].lv := by simp [List.getD, hk]
    rw [e]; exact h _ (List.getElem_mem _)
  · have e : (L.map (·.lv)).getD k 0 = 0 := by simp [List.getD, Nat.le_of_not_lt hk]
    rw [e]; exact Int.le_refl _
theorem firstLv_at {l : List Int} {k : Nat} {a : Int} (h : ∀ x ∈ l.take k, ¬ 0 < x) (hk : l[k]? = some a) (ha : 0 < a) : firstLv l = a := by
  rw [firstLv_skip h]
  have e : l.drop k = a :: l.drop (k + 1) := by
    have hl := (List.getElem?_eq_some_iff.1 hk)
    rw [List.drop_eq_getElem_cons hl.1, hl.2]
  rw [e, firstLv, if_pos ha]
theorem firstLv_none {l : List Int} (h : ∀ x ∈ l, ¬ 0 < x) : firstLv l = 0 := by
  rw [firstLv_skip (k := l.length) (by rw [List.take_length]; exact h), List.drop_length]; rfl

set_option maxHeartbeats 4000000 in
set_option maxRecDepth 100000 in
theorem specEffective_c {w : World} {B b o n1 k1 n2 k2 : Nat} {A2 : Option Addr} {L : List Lgr} {ls : List LgrV} (q : Int) (x : ByteArray) (hl : Ls w B n1 (.slice (some ⟨b, o, none⟩) n1 k1) ls) (hL : lsOf ls = L) (hN : lnames ls = nsOf L) (hlen : (nsOf L).length = n1) (hn8 : n1 ≤ 8) (hB : B ≤ w.heap.size) (hbB : b < B) (hx : x.size ≤ maxLen)
    (h0 : (nsOf L)[0]? = some []) (hnm : ∀ z ∈ nsOf L, nameOk z = true) (hlv : ∀ l ∈ L, 0 ≤ l.lv) :
    Calls Tryz.prog 110 #[.agg #[.slice (some ⟨b, o, none⟩) n1 k1, .slice A2 n2 k2, .int .i64 q], .string x] w (fun e w' => e = .returned (.int .i64 (levelN (nsOf L) (lvAt L) x.data.toList)) ∧ Below w.heap.size w w') := by
  have CP := hid (fun (W : World) (hW : Below w.heap.size w W) => specPath_c (some ⟨b, o, none⟩) A2 n1 k1 n2 k2 B q ls x W (hl.below hW hB) (Nat.le_trans hB hW.size) (by omega) hx (by rw [hN]; exact h0) (by rw [hN]; exact hnm))
  rw [hN] at CP
  have HPL := hid (show (pathN (nsOf L) x.data.toList).length ≤ 5 ∧ ∀ i ∈ pathN (nsOf L) x.data.toList, i < n1 from ⟨pathF_len _ _ _, by rw [← hlen]; exact pathF_lt h0 _ _ (near_lt h0 _)⟩)
  have HE := hid (show levelN (nsOf L) (lvAt L) x.data.toList = firstLv ((pathN (nsOf L) x.data.toList).map (lvAt L)) from (level_first _ (lvAt_nonneg hlv) _ _).symm)
  have hcap := hl.1.cap
  unfold maxLen at hcap
  have HV := hid (And.intro hl (And.intro hL hbB))
  clear hl hL hN hlen h0 hnm hlv
  generalize hk : pathN (nsOf L) x.data.toList = pl at *
  clear hk
  go_enter Tryz.func110, Tryz.ntmps110
  go_wp2_with fail
  refine (CP.out _ ?_).mono ?_
  case refine_1 => go_grown
  rintro e w1 ⟨vi, rfl, hoi, hb1⟩
  have K1 := (Blk.new _ _ _).to hb1
  simp only [World.size_alloc] at K1
  have HK1 := hid K1
  have HB1 := hid (Below.trans (by go_grown) (hb1.mono (by simp; try omega)) : Below w.heap.size w w1)
  have hw1 : w.heap.size < w1.heap.size := HK1.out.1
  obtain ⟨Ai, ci, rfl, hic, hicm⟩ := (Sl.of_own hoi).form
  unfold maxLen at hicm
  have HOi := hid (Sl.of_own hoi)
  clear hb1 K1 hoi
  go_wp2_with fail
  go_loopw [6] (fun iv wr => ∃ (k : Nat), iv = .int .i64 k ∧ k ≤ pl.length ∧ Hid (∀ y ∈ (pl.map (lvAt L)).take k, ¬ 0 < y) ∧ Hid (Below w1.heap.size w1 wr)) (fun iv _ => pl.length - (intOf iv).toNat)
  case atStart => exact ⟨0, rfl, by omega, by intro y hy; simp at hy, Below.refl _ _⟩
  case round =>
    obtain ⟨k, rfl, hk, HN, HBx⟩ := hrel
    have HW := hid (HB1.out.trans (HBx.out.mono HB1.out.size))
    have hpl5 := HPL.out.1
    by_cases hlt : k < pl.length
    · obtain ⟨bi, oi, i, rfl, hbi, hxi, ic0⟩ := ints_at HOi.out hlt
      have hi1 : i < n1 := HPL.out.2 i (List.mem_of_getElem? hxi)
      have HXI := hid (show (pl.map (lvAt L))[k]? = some (lvAt L i) by rw [List.getElem?_map, hxi]; rfl)
      obtain ⟨p, A3, hn', k3, A4, fn, k4, hp, hps, _, _, g0, g1, _⟩ := logger_at HV.out.1 HV.out.2.1 hi1
      have hbw : b < w.heap.size := by have := HV.out.2.2; omega
      have d0 := ((HK1.out.below HBx.out hw1).2 0 _ rfl).1
      have c1 := (HW.out.cell (p := ⟨b, o + i * 6 + 1, none⟩) hbw).trans g1
      have ic := (HBx.out.cell (p := ⟨bi, oi + k, none⟩) hbi).trans ic0
      have s0 : (0 : Int) ≤ (k : Int) := by omega
      have s1 : (k : Int) < (pl.length : Int) := by omega
      have s2 : ((k : Int)).toNat = k := by simp
      have t0 : (0 : Int) ≤ (i : Int) := by omega
      have t1 : (i : Int) < (n1 : Int) := by omega
      have t2 : ((i : Int)).toNat = i := by simp
      clear hp hps hxi g0 g1 ic0
      by_cases hz : 0 < lvAt L i
      · have HF := hid (show levelN (nsOf L) (lvAt L) x.data.toList = lvAt L i by rw [HE.out]; exact firstLv_at HN.out HXI.out hz)
        go_wp2_with fail
        go_quiet (fail)
        go_wp2_with fail
        go_quiet (fail)
        go_wp2_with fail
        go_ret
        exact ⟨by rw [HF.out]; rfl, below_dr (below_dr HW.out _) _⟩
      · have HS := hid (show ∀ y ∈ (pl.map (lvAt L)).take (k + 1), ¬ 0 < y by
          intro y hy
          rw [List.take_add_one, HXI.out] at hy
          rcases List.mem_append.1 hy with hy | hy
          · exact HN.out y hy
          · simp at hy; rw [hy]; exact hz)
        go_wp2_with fail
        go_quiet (fail)
        go_wp2_with fail
        go_roundw
        case rel => exact ⟨k + 1, by go_num, by omega, (fun y hy => by have := HS.out y hy; omega), below_dr HBx.out _⟩
        case measure => simp [intOf]; omega
    · have HF := hid (show levelN (nsOf L) (lvAt L) x.data.toList = 0 by
        rw [HE.out]
        refine firstLv_none ?_
        have := HN.out
        rwa [List.take_of_length_le (by rw [List.length_map]; omega)] at this)
      go_wp2_with fail
      go_ret
      exact ⟨by rw [HF.out]; rfl, HW.out⟩

set_option maxHeartbeats 4000000 in
set_option maxRecDepth 100000 in
theorem specEnabled_c {w : World} {B b o n1 k1 n2 k2 : Nat} {A2 : Option Addr} {L : List Lgr} {ls : List LgrV} (q : Int) (x : ByteArray) (lv : Int) (hl : Ls w B n1 (.slice (some ⟨b, o, none⟩) n1 k1) ls) (hL : lsOf ls = L) (hN : lnames ls = nsOf L) (hlen : (nsOf L).length = n1) (hn8 : n1 ≤ 8) (hB : B ≤ w.heap.size) (hbB : b < B) (hx : x.size ≤ maxLen)
    (h0 : (nsOf L)[0]? = some []) (hnd : (nsOf L).Nodup) (hnm : ∀ z ∈ nsOf L, nameOk z = true) (hlv : ∀ l ∈ L, 0 ≤ l.lv) :
    Calls Tryz.prog 73 #[.agg #[.slice (some ⟨b, o, none⟩) n1 k1, .slice A2 n2 k2, .int .i64 q], .string x, .int .i64 lv] w (BoolPost w (enabledT L q x.data.toList lv)) := by
  have CE := hid (fun (W : World) (hW : Below w.heap.size w W) => specEffective_c (A2 := A2) (n2 := n2) (k2 := k2) q x (hl.below hW hB) hL hN hlen hn8 (Nat.le_trans hB hW.size) hbB hx h0 hnm hlv)
  have HB0 := hid (show Below w.heap.size w (w.alloc (.cells #[.slice (some ⟨b, o, none⟩) n1 k1, .slice A2 n2 k2, .int .i64 q] 36)) from (Below.refl _ _).alloc (Nat.le_refl _) _)
  have AT := hid (loggerAt_c (.slice (some ⟨b, o, none⟩) n1 k1) n1 B ls x (w.alloc (.cells #[.slice (some ⟨b, o, none⟩) n1 k1, .slice A2 n2 k2, .int .i64 q] 36)) (hl.below HB0.out hB))
  rw [hN] at AT
  have HE := hid (show enabledT L q x.data.toList lv = (!offT L x.data.toList && (decide (q < lv) && decide (levelN (nsOf L) (lvAt L) x.data.toList ≤ lv))) from rfl)
  have hcap := hl.1.cap
  unfold maxLen at hcap
  by_cases hm : x.data.toList ∈ nsOf L
  · have hns := near_self h0 hnd hm
    have hlt : nearN (nsOf L) x.data.toList < n1 := by rw [← hlen]; exact hns.1
    have hix : idxL (nsOf L) x.data.toList = ((nearN (nsOf L) x.data.toList : Nat) : Int) := by
      unfold idxL
      rw [if_pos hm]
      have : (nsOf L).idxOf x.data.toList = nearN (nsOf L) x.data.toList := (near_hit h0 hnd _ _ (by rw [List.getElem?_eq_getElem (List.idxOf_lt_length_of_mem hm), List.getElem_idxOf])).symm
      rw [this]
    rw [hix] at AT
    have HO := hid (show offT L x.data.toList = offAt L (nearN (nsOf L) x.data.toList) by unfold offT; rw [decide_eq_true hm]; rfl)
    obtain ⟨p, A3, hn', k3, A4, fn, k4, hp, hps, _, _, g0, g1, g2, g3, g4, g5⟩ := logger_at (hl.below HB0.out hB) hL hlt
    clear hns hm hix hp hps g0 g1 g2 g3 g4 hl hL hN hlen h0 hnd hnm hlv
    generalize hk : nearN (nsOf L) x.data.toList = k at *
    clear hk
    have s0 : (0 : Int) ≤ (k : Int) := by omega
    have s1 : (k : Int) < (n1 : Int) := by omega
    have s2 : ((k : Int)).toNat = k := by simp
    cases hof : offAt L k with
    | true =>
      rw [hof] at g5
      have HF := hid (show enabledT L q x.data.toList lv = false by rw [HE.out, HO.out, hof]; rfl)
      clear hof
      go_enter Tryz.func73, Tryz.ntmps73
      go_wp2_with (go_at_call 65; refine (AT.out).mono ?_; rintro e w2 ⟨rfl, hw2⟩; have hw2 := hw2.symm; subst hw2)
      go_ret
      exact ⟨ret_bool HF.out.symm, HB0.out⟩
    | false =>
      rw [hof] at g5
      have HF := hid (show enabledT L q x.data.toList lv = (decide (q < lv) && decide (levelN (nsOf L) (lvAt L) x.data.toList ≤ lv)) by rw [HE.out, HO.out, hof]; rfl)
      clear hof
      by_cases hq : q < lv
      · have HF2 := hid (show enabledT L q x.data.toList lv = decide (levelN (nsOf L) (lvAt L) x.data.toList ≤ lv) by rw [HF.out, decide_eq_true hq]; rfl)
        go_enter Tryz.func73, Tryz.ntmps73
        go_wp2_with (go_at_call 65; refine (AT.out).mono ?_; rintro e w2 ⟨rfl, hw2⟩; have hw2 := hw2.symm; subst hw2)
        refine (CE.out _ HB0.out).mono ?_
        rintro e w3 ⟨rfl, hb3⟩
        have HB3 := hid (HB0.out.trans (hb3.mono HB0.out.size))
        clear hb3
        go_wp2_with fail
        go_ret
        exact ⟨ret_bool HF2.out.symm, HB3.out⟩
      · have HF2 := hid (show enabledT L q x.data.toList lv = false by rw [HF.out, decide_eq_false hq]; rfl)
        go_enter Tryz.func73, Tryz.ntmps73
        go_wp2_with (go_at_call 65; refine (AT.out).mono ?_; rintro e w2 ⟨rfl, hw2⟩; have hw2 := hw2.symm; subst hw2)
        go_ret
        exact ⟨ret_bool HF2.out.symm, HB0.out⟩
  · have hix : idxL (nsOf L) x.data.toList = -1 := idx_miss _ _ hm
    rw [hix] at AT
    have HF := hid (show enabledT L q x.data.toList lv = (decide (q < lv) && decide (levelN (nsOf L) (lvAt L) x.data.toList ≤ lv)) by
      rw [HE.out]; unfold offT; rw [decide_eq_false hm]; rfl)
    clear hm hix hl hL hN hlen h0 hnd hnm hlv
    by_cases hq : q < lv
    · have HF2 := hid (show enabledT L q x.data.toList lv = decide (levelN (nsOf L) (lvAt L) x.data.toList ≤ lv) by rw [HF.out, decide_eq_true hq]; rfl)
      go_enter Tryz.func73, Tryz.ntmps73
      go_wp2_with (go_at_call 65; refine (AT.out).mono ?_; rintro e w2 ⟨rfl, hw2⟩; have hw2 := hw2.symm; subst hw2)
      refine (CE.out _ HB0.out).mono ?_
      rintro e w3 ⟨rfl, hb3⟩
      have HB3 := hid (HB0.out.trans (hb3.mono HB0.out.size))
      clear hb3
      go_wp2_with fail
      go_ret
      exact ⟨ret_bool HF2.out.symm, HB3.out⟩
    · have HF2 := hid (show enabledT L q x.data.toList lv = false by rw [HF.out, decide_eq_false hq]; rfl)
      go_enter Tryz.func73, Tryz.ntmps73
      go_wp2_with (go_at_call 65; refine (AT.out).mono ?_; rintro e w2 ⟨rfl, hw2⟩; have hw2 := hw2.symm; subst hw2)
      go_ret
      exact ⟨ret_bool HF2.out.symm, HB0.out⟩

end Go.Proofs.YtlifaeleoiodkaaGreatDoor
