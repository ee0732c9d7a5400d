/-
  WALKS: the program's ParentOf, ChildrenOf, BranchOf.
-/
import Derived.Test.YtlhelhfaogcibaaN9
namespace Go.Proofs.Ytlhelhfaogcibaa
open Go.RowKit Nm
set_option linter.unusedSimpArgs false
set_option linter.unusedVariables false

theorem ne_true_of {a b : ByteArray} (h : ¬ a.data.toList = b.data.toList) : (a.toList != b.toList) = true := by rw [bne, eq_false_of h]; rfl
theorem ne_false_of {a b : ByteArray} (h : a.data.toList = b.data.toList) : (a.toList != b.toList) = false := by rw [bne, eq_true_of h]; rfl
theorem parentB_no {L : List Lgr} {H : List Hnd} {q : Int} {x : Name} (h : (treeOk L H q && nameOk x) = false) : parentB L H q x = false := by
  cases h1 : treeOk L H q with
  | false => unfold parentB; rw [h1]; rfl
  | true =>
    rw [h1, Bool.true_and] at h
    have : x ∉ nsOf L := fun hm => by have := (tree_ns h1).2.2.1 x hm; rw [h] at this; cases this
    unfold parentB
    rw [decide_eq_false this, Bool.and_false, Bool.and_false]

set_option maxHeartbeats 4000000 in
set_option maxRecDepth 100000 in
theorem implParentOf_c {w : World} {B : Nat} {v : Value} {L : List Lgr} {H : List Hnd} {q : Int} (x : ByteArray) (h : TreeIn w B v L H q) (hB : B ≤ w.heap.size) (hx : x.size ≤ maxLen) :
    Calls Try.prog 23 #[v, .string x] w (fun e w' => e = .returned (.tuple #[txt (parentT L H q x.data.toList), .bool (parentB L H q x.data.toList)]) ∧ Below w.heap.size w w') := by
  cases hz : (treeOk L H q && nameOk x.data.toList) with
  | false =>
    have C := hid (fun (W : World) (hW : Below w.heap.size w W) => implNode_no x (h.below hW hB) (Nat.le_trans hB hW.size) hx hz)
    have HE := hid (show parentT L H q x.data.toList = [] ∧ parentB L H q x.data.toList = false from ⟨by unfold parentT; rw [parentB_no hz]; rfl, parentB_no hz⟩)
    obtain ⟨A1, n1, k1, A2, n2, k2, rfl⟩ := h.form
    clear h hz
    go_enter Try.func23, Try.ntmps23
    go_wp2_with fail
    refine (C.out _ ?_).mono ?_
    case refine_1 => go_grown
    rintro e w1 ⟨rfl, hb1⟩
    have HB1 := hid (Below.trans (by go_grown) (hb1.mono (by simp; try omega)) : Below w.heap.size w w1)
    clear hb1
    go_wp2_with fail
    go_ret2
    exact ⟨by rw [HE.out.1, HE.out.2]; rfl, HB1.out⟩
  | true =>
    have hz' := hz
    simp only [Bool.and_eq_true] at hz'
    obtain ⟨b, o, n1, k1, A2, n2, k2, ls, rfl, hl, hL, hN, hn, hn8, hn1, hbB⟩ := h.opened hz'.1
    have C := hid (fun (W : World) (hW : Below w.heap.size w W) => implNode_yes x (h.below hW hB) (hl.below hW hB) hn8 hN (Nat.le_trans hB hW.size) hz'.2 hz'.1)
    obtain ⟨h0, hnd, hnm, hlen, _⟩ := tree_ns hz'.1
    rw [← hn] at hlen
    have HV := hid (And.intro hl (And.intro hL (And.intro hlen (And.intro h0 (And.intro hnm hbB)))))
    have HT := hid hz'.1
    have hlt : nearN (nsOf L) x.data.toList < n1 := by rw [← hlen]; exact near_lt h0 _
    have HH := hid (fun (hm : x.data.toList ∈ nsOf L) => (show (nsOf L).getD (nearN (nsOf L) x.data.toList) [] = x.data.toList by
      obtain ⟨j, hj, e⟩ := List.getElem_of_mem hm
      have e2 : (nsOf L)[j]? = some x.data.toList := by rw [List.getElem?_eq_getElem hj, e]
      rw [near_hit h0 hnd _ _ e2]; exact at_getD e2))
    have HM := hid (fun (e : (nsOf L).getD (nearN (nsOf L) x.data.toList) [] = x.data.toList) => (show x.data.toList ∈ nsOf L by
      have := getD_at (ns := nsOf L) (j := nearN (nsOf L) x.data.toList) (by rw [hlen]; exact hlt)
      rw [e] at this; exact List.mem_of_getElem? this))
    have HP := hid (show parentT L H q x.data.toList = if parentB L H q x.data.toList then (nsOf L).getD (upN (nsOf L) (nearN (nsOf L) x.data.toList)) [] else [] from rfl)
    clear h hz hz' hl hN h0 hnd hnm hn hlen hL
    generalize hk : nearN (nsOf L) x.data.toList = k at *
    clear hk
    go_enter Try.func23, Try.ntmps23
    go_wp2_with fail
    refine (C.out _ ?_).mono ?_
    case refine_1 => go_grown
    rintro e w1 ⟨nb, rfl, hNd, hb1⟩
    have HB1 := hid (Below.trans (by go_grown) (hb1.mono (by simp; try omega)) : Below w.heap.size w w1)
    obtain ⟨p, A3, hn', k3, A4, fn, k4, hp, hps, _, _, c0, _⟩ := logger_at (HV.out.1.below HB1.out hB) HV.out.2.1 hlt
    obtain ⟨m0, m1, m2, mlt⟩ := node_at hNd (k := k) (by rw [HV.out.2.2.1]; exact hlt)
    have HNd := hid hNd
    have HPx := hid hp
    have HM12 := hid (And.intro m1 m2)
    clear hb1 hNd hp hps m1 m2 mlt
    by_cases hpx : p.data.toList = x.data.toList
    · have e1 := eq_true_of hpx
      have hmem := HM.out (by rw [← HPx.out, hpx])
      by_cases hr : x.data.toList = []
      · have m1 := HM12.out.1 (by rw [← HPx.out, hpx, hr])
        have HR := hid (show parentB L H q x.data.toList = false by unfold parentB; rw [decide_eq_true hr]; simp)
        clear hpx hmem hr
        go_wp2_with fail
        go_ret2
        exact ⟨by rw [HP.out, HR.out]; rfl, HB1.out⟩
      · have m2 := HM12.out.2 (by rw [← HPx.out, hpx]; exact hr)
        have HR := hid (show parentB L H q x.data.toList = true by unfold parentB; rw [decide_eq_false hr, decide_eq_true hmem, HT.out]; rfl)
        have hul : upN (nsOf L) k < n1 := by rw [← HV.out.2.2.1]; exact near_lt HV.out.2.2.2.1 _
        obtain ⟨p', A3', hn'', k3', A4', fn', k4', hp', hps', _, _, c0', _⟩ := logger_at (HV.out.1.below HB1.out hB) HV.out.2.1 hul
        have m0' := (node_at HNd.out (k := upN (nsOf L) k) (by rw [HV.out.2.2.1]; exact hul)).1
        have HP' := hid hp'
        clear hpx hmem hr hp' hps'
        go_wp2_with fail
        go_ret2
        refine ⟨?_, HB1.out⟩
        rw [HP.out, HR.out, if_pos rfl, ← HP'.out, txt_data]; rfl
    · have e1 := eq_false_of hpx
      have HR := hid (show parentB L H q x.data.toList = false by
        have : x.data.toList ∉ nsOf L := fun hm => hpx (by rw [HPx.out]; exact HH.out hm)
        unfold parentB; rw [decide_eq_false this]; simp)
      clear hpx
      go_wp2_with fail
      go_ret2
      exact ⟨by rw [HP.out, HR.out]; rfl, HB1.out⟩

set_option maxHeartbeats 4000000 in
set_option maxRecDepth 100000 in
theorem implBranchOf_c {w : World} {B : Nat} {v : Value} {L : List Lgr} {H : List Hnd} {q : Int} (x : ByteArray) (h : TreeIn w B v L H q) (hB : B ≤ w.heap.size) (hx : x.size ≤ maxTxt) :
    Calls Try.prog 27 #[v, .string x] w (StrsPost w (branchT L H q x.data.toList)) := by
  unfold maxTxt at hx
  have C := hid (fun (W : World) (hW : Below w.heap.size w W) => implValidTreeX_c (h.below hW hB) (Nat.le_trans hB hW.size))
  have V := hid (fun (W : World) => implValidName_c x W (by unfold maxLen; omega))
  cases hz : treeOk L H q with
  | false =>
    have HE := hid (show branchT L H q x.data.toList = [] by unfold branchT; rw [hz]; rfl)
    obtain ⟨A1, n1, k1, A2, n2, k2, rfl⟩ := h.form
    rw [hz] at C
    clear h hz
    go_enter Try.func27, Try.ntmps27
    go_wp2_with fail
    refine (C.out _ ?_).mono ?_
    case refine_1 => go_grown
    rintro e w1 ⟨rfl, hb1⟩
    have HB1 := hid (Below.trans (by go_grown) (hb1.mono (by simp; try omega)) : Below w.heap.size w w1)
    clear hb1
    go_wp2_with fail
    go_ret
    exact ⟨_, rfl, by rw [HE.out]; exact World.ownsRow_nil _ _ _ _, HB1.out⟩
  | true =>
    rw [hz] at C
    obtain ⟨b, o, n1, k1, A2, n2, k2, ls, rfl, hl, hL, hN, hn, hn8, hn1, hbB⟩ := h.opened hz
    have HEf := hid (fun (hy : nameOk x.data.toList = false) => (show branchT L H q x.data.toList = [] by unfold branchT; rw [hz, hy]; rfl))
    have HEt := hid (fun (hy : nameOk x.data.toList = true) => (show branchT L H q x.data.toList = (nsOf L).filter (fun y => belowL y x.data.toList) by unfold branchT; rw [hz, hy]; rfl))
    have hlen := (tree_ns hz).2.2.2.1
    rw [← hn] at hlen
    have HV := hid (And.intro hl (And.intro hL (And.intro hlen hbB)))
    clear h hz hl hN hn hL hlen
    go_enter Try.func27, Try.ntmps27
    go_wp2_with fail
    refine (C.out _ ?_).mono ?_
    case refine_1 => go_grown
    rintro e w1 ⟨rfl, hb1⟩
    have K1 := (Blk.new _ _ _).to hb1
    simp only [World.size_alloc] at K1
    have HK1 := hid K1
    have HB1 := hid (Below.trans (by go_grown) (hb1.mono (by simp; try omega)) : Below w.heap.size w w1)
    clear hb1 K1
    cases hy : nameOk x.data.toList with
    | false =>
      rw [hy] at V
      have HE := hid (HEf.out hy)
      clear hy
      go_wp2_with fail
      refine (V.out _).mono ?_
      rintro e w2 ⟨rfl, hb2⟩
      have HB2 := hid (HB1.out.trans (hb2.mono HB1.out.size))
      clear hb2
      go_wp2_with fail
      go_ret
      exact ⟨_, rfl, by rw [HE.out]; exact World.ownsRow_nil _ _ _ _, HB2.out⟩
    | true =>
      rw [hy] at V
      have HE := hid (HEt.out hy)
      clear hy
      go_wp2_with fail
      refine (V.out _).mono ?_
      rintro e w2 ⟨rfl, hb2⟩
      have HB2 := hid (HB1.out.trans (hb2.mono HB1.out.size))
      have HK2 := hid (HK1.out.to hb2)
      clear hb2
      have d0 := (HK2.out.2 0 _ rfl).1
      go_wp2_with fail
      clear d0
      go_loopw [5, 19] (fun sv iv wr => ∃ (k : Nat), iv = .int .i64 k ∧ k ≤ n1 ∧ wr.ownsRow w2.heap.size 9 1 sv (takeF (fun y => belowL y x.data.toList) (nsOf L) k).length ((takeF (fun y => belowL y x.data.toList) (nsOf L) k).map txt) ∧ Hid (Below w2.heap.size w2 wr)) (fun _ iv _ => n1 - (intOf iv).toNat)
      case atStart => exact ⟨0, rfl, by omega, World.ownsRow_nil _ _ _ _, Below.refl _ _⟩
      case round =>
        obtain ⟨k, rfl, hk, hown, HBx⟩ := hrel
        have hfl := takeF_len (fun y => belowL y x.data.toList) (nsOf L) k
        obtain ⟨Ax, cx, rfl, _, _⟩ := (Sl.of_own hown).form
        have HO := hid hown
        clear hown
        have HW := hid (HB2.out.trans (HBx.out.mono HB2.out.size))
        by_cases hlt : k < n1
        · obtain ⟨p, A3, hn', k3, A4, fn, k4, hp, hps, _, _, c0, c1, c2, c3, c4, c5⟩ := logger_at (HV.out.1.below HW.out hB) HV.out.2.1 hlt
          have HX := hid (show (nsOf L)[k]? = some p.data.toList by rw [hp]; exact getD_at (by rw [HV.out.2.2.1]; exact hlt))
          have IB := hid (fun W => inBranch_c p x W (by unfold maxTxt at hps; unfold maxLen; omega) (by omega))
          have HB0 := hid (HBx.out.alloc HBx.out.size (.cells #[.string p, .int .i64 (lvAt L k), .slice A3 hn' k3, .slice A4 fn k4, .bool (stopAt L k), .bool (offAt L k)] 55))
          have HO0 := hid (HO.out.alloc (.cells #[.string p, .int .i64 (lvAt L k), .slice A3 hn' k3, .slice A4 fn k4, .bool (stopAt L k), .bool (offAt L k)] 55))
          clear hp hps
          cases hb : belowL p.data.toList x.data.toList with
          | false =>
            rw [hb] at IB
            have HF := hid (show takeF (fun y => belowL y x.data.toList) (nsOf L) (k + 1) = takeF (fun y => belowL y x.data.toList) (nsOf L) k from takeF_miss HX.out hb)
            clear hb
            go_wp2_with (go_at_call 56; refine (IB.out _).mono ?_; rintro e w3 ⟨rfl, hw3⟩; have hw3 := hw3.symm; subst hw3)
            go_roundw
            case rel => exact ⟨k + 1, by go_num, by omega, by rw [HF.out]; exact HO0.out, HB0.out⟩
            case measure => simp [intOf]; omega
          | true =>
            rw [hb] at IB
            have HF := hid (show takeF (fun y => belowL y x.data.toList) (nsOf L) (k + 1) = takeF (fun y => belowL y x.data.toList) (nsOf L) k ++ [p.data.toList] from takeF_hit HX.out hb)
            clear hb
            go_wp2_with (first | (go_at_call 56; refine (IB.out _).mono ?_; rintro e w3 ⟨rfl, hw3⟩; have hw3 := hw3.symm; subst hw3) | (at_builtin; (refine appText _ rfl (.tmp 27) (.tmp 30) rfl w2.heap.size _ (takeF (fun y => belowL y x.data.toList) (nsOf L) k) (by rfl) HO0.out p _ _ _ (by rfl) (by simp) (by omega) HB0.out.size ?_)))
            intro v' w4 ho4 hb4
            have HO4 := hid ho4
            have HB4 := hid (HB0.out.trans hb4)
            clear ho4 hb4
            go_wp2_with fail
            go_roundw
            case rel => exact ⟨k + 1, by go_num, by omega, by rw [HF.out]; simpa using HO4.out, HB4.out⟩
            case measure => simp [intOf]; omega
        · obtain rfl : k = n1 := by omega
          have HF := hid (show branchT L H q x.data.toList = takeF (fun y => belowL y x.data.toList) (nsOf L) k by rw [HE.out, takeF_all (by rw [HV.out.2.2.1]; exact Nat.le_refl _)])
          go_wp2_with fail
          go_ret
          exact ⟨_, rfl, by rw [HF.out]; exact own_base HO.out HB2.out.size, HW.out⟩
end Go.Proofs.Ytlhelhfaogcibaa
