/-
  N12, N13, N14, N15 laid together.
-/
import Derived.Test.YtcgcbgbmofooiaaLookI
import Derived.Test.YtcgcbgbmofooiaaHelps
import Derived.StillTailTactics
import Derived.Deep.RegionHeld3
/-
  WALKS: the model's NearestTo, PathOf, ParentOf.
-/
namespace Go.Proofs.Ytcgcbgbmofooiaa
open Go.RowKit Nm
set_option linter.unusedSimpArgs false
set_option linter.unusedVariables false

end Go.Proofs.Ytcgcbgbmofooiaa

/-
  WALKS: the model's ParentOf, BranchOf, ChildrenOf.
-/
namespace Go.Proofs.Ytcgcbgbmofooiaa
open Go.RowKit Nm
set_option linter.unusedSimpArgs false
set_option linter.unusedVariables false

theorem path_second {ns : List Name} (hok : ∀ z ∈ ns, nameOk z = true) (h0 : ns[0]? = some []) {x : Name} (hr : ns.getD (nearN ns x) [] ≠ []) : (pathN ns x)[1]? = some (upN ns (nearN ns x)) := by
  unfold pathN
  obtain ⟨g, hg, e⟩ := pathF_up (ns := ns) (f := 4) hr (depth_le hok _)
  rw [e]
  cases g with
  | zero => omega
  | succ g => simp only [List.getElem?_cons_succ, pathF]; split <;> rfl
theorem near_self {ns : List Name} (h0 : ns[0]? = some []) (hn : ns.Nodup) {x : Name} (hm : x ∈ ns) : nearN ns x < ns.length ∧ ns.getD (nearN ns x) [] = x := by
  obtain ⟨j, hj, e⟩ := List.getElem_of_mem hm
  have e2 : ns[j]? = some x := by rw [List.getElem?_eq_getElem hj, e]
  rw [near_hit h0 hn _ _ e2]
  exact ⟨hj, at_getD e2⟩

end Go.Proofs.Ytcgcbgbmofooiaa

/-
  WALKS: the model's BranchOf, ChildrenOf.
-/
namespace Go.Proofs.Ytcgcbgbmofooiaa
open Go.RowKit Nm
set_option linter.unusedSimpArgs false
set_option linter.unusedVariables false

set_option maxHeartbeats 4000000 in
set_option maxRecDepth 100000 in
theorem specBranchOf_c {w : World} {B : Nat} {v : Value} {L : List Lgr} {H : List Hnd} {q : Int} (x : ByteArray) (h : TreeIn w B v L H q) (hB : B ≤ w.heap.size) (hx : x.size ≤ maxTxt) :
    Calls Try.prog 12 #[v, .string x] w (StrsPost w (branchT L H q x.data.toList)) := by
  unfold maxTxt at hx
  have C := hid (fun (W : World) (hW : Below w.heap.size w W) => specTreeX_c (h.below hW hB) (Nat.le_trans hB hW.size))
  have V := hid (fun (W : World) => validName_c x W hx)
  cases hz : treeOk L H q with
  | false =>
    have HE := hid (show branchT L H q x.data.toList = [] by unfold branchT; rw [hz]; rfl)
    obtain ⟨A1, n1, k1, A2, n2, k2, rfl⟩ := h.form
    rw [hz] at C
    clear h hz
    go_enter Try.func12, Try.ntmps12
    go_wp2_with fail
    refine (C.out _ ?_).mono ?_
    case refine_1 => go_grown
    rintro e w1 ⟨rfl, hb1⟩
    have HB1 := hid (Below.trans (by go_grown) (hb1.mono (by simp; try omega)) : Below w.heap.size w w1)
    clear hb1
    go_wp2_with fail
    go_ret
    exact ⟨_, rfl, by rw [HE.out]; exact World.ownsRow_nil _ _ _ _, HB1.out⟩
  | true =>
    rw [hz] at C
    obtain ⟨b, o, n1, k1, A2, n2, k2, ls, rfl, hl, hL, hN, hn, hn8, hn1, hbB⟩ := h.opened hz
    have HEf := hid (fun (hy : nameOk x.data.toList = false) => (show branchT L H q x.data.toList = [] by unfold branchT; rw [hz, hy]; rfl))
    have HEt := hid (fun (hy : nameOk x.data.toList = true) => (show branchT L H q x.data.toList = (nsOf L).filter (fun y => belowL y x.data.toList) by unfold branchT; rw [hz, hy]; rfl))
    have hlen := (tree_ns hz).2.2.2.1
    rw [← hn] at hlen
    have hcap := hl.1.cap
    unfold maxLen at hcap
    have HV := hid (And.intro hl (And.intro hL (And.intro hlen hbB)))
    clear h hz hl hN hn hL hlen
    go_enter Try.func12, Try.ntmps12
    go_wp2_with fail
    refine (C.out _ ?_).mono ?_
    case refine_1 => go_grown
    rintro e w1 ⟨rfl, hb1⟩
    have K1 := (Blk.new _ _ _).to hb1
    simp only [World.size_alloc] at K1
    have HK1 := hid K1
    have HB1 := hid (Below.trans (by go_grown) (hb1.mono (by simp; try omega)) : Below w.heap.size w w1)
    clear hb1 K1
    cases hy : nameOk x.data.toList with
    | false =>
      rw [hy] at V
      have HE := hid (HEf.out hy)
      clear hy
      go_wp2_with fail
      refine (V.out _).mono ?_
      rintro e w2 ⟨rfl, hb2⟩
      have HB2 := hid (HB1.out.trans (hb2.mono HB1.out.size))
      clear hb2
      go_wp2_with fail
      go_ret
      exact ⟨_, rfl, by rw [HE.out]; exact World.ownsRow_nil _ _ _ _, HB2.out⟩
    | true =>
      rw [hy] at V
      have HE := hid (HEt.out hy)
      clear hy
      go_wp2_with fail
      refine (V.out _).mono ?_
      rintro e w2 ⟨rfl, hb2⟩
      have HB2 := hid (HB1.out.trans (hb2.mono HB1.out.size))
      have HK2 := hid (HK1.out.to hb2)
      have hw2 : w.heap.size < w2.heap.size := HK2.out.1
      clear hb2
      go_wp2_with fail
      go_loopw [5, 6] (fun sv iv wr => ∃ (k : Nat), iv = .int .i64 k ∧ k ≤ n1 ∧ wr.ownsRow w2.heap.size 9 1 sv (takeF (fun y => belowL y x.data.toList) (nsOf L) k).length ((takeF (fun y => belowL y x.data.toList) (nsOf L) k).map txt) ∧ Hid (Below w2.heap.size w2 wr)) (fun _ iv _ => n1 - (intOf iv).toNat)
      case atStart => exact ⟨0, rfl, by omega, World.ownsRow_lit w2 #[] 0 (Nat.le_refl _) (by unfold maxLen; omega) rfl, (Below.refl _ _).alloc (Nat.le_refl _) _⟩
      case round =>
        obtain ⟨k, rfl, hk, hown, HBx⟩ := hrel
        have hfl := takeF_len (fun y => belowL y x.data.toList) (nsOf L) k
        obtain ⟨Ax, cx, rfl, _, _⟩ := (Sl.of_own hown).form
        have HO := hid hown
        clear hown
        have HW := hid (HB2.out.trans (HBx.out.mono HB2.out.size))
        have d0 := ((HK2.out.below HBx.out hw2).2 0 _ rfl).1
        by_cases hlt : k < n1
        · obtain ⟨p, A3, hn', k3, A4, fn, k4, hp, hps, _, _, c0, c1, c2, c3, c4, c5⟩ := logger_at (HV.out.1.below HW.out hB) HV.out.2.1 hlt
          have HX := hid (show (nsOf L)[k]? = some p.data.toList by rw [hp]; exact getD_at (by rw [HV.out.2.2.1]; exact hlt))
          have IB := hid (fun W => specBelow_c p x W (by unfold maxTxt at hps; unfold maxLen; omega) (by unfold maxLen; omega))
          clear hp hps
          cases hb : belowL p.data.toList x.data.toList with
          | false =>
            rw [hb] at IB
            have HF := hid (show takeF (fun y => belowL y x.data.toList) (nsOf L) (k + 1) = takeF (fun y => belowL y x.data.toList) (nsOf L) k from takeF_miss HX.out hb)
            clear hb
            go_wp2_with (go_at_call 44; refine (IB.out _).mono ?_; rintro e w3 ⟨rfl, hw3⟩; have hw3 := hw3.symm; subst hw3)
            go_roundw
            case rel => exact ⟨k + 1, by go_num, by omega, by rw [HF.out]; exact HO.out, HBx.out⟩
            case measure => simp [intOf]; omega
          | true =>
            rw [hb] at IB
            have HF := hid (show takeF (fun y => belowL y x.data.toList) (nsOf L) (k + 1) = takeF (fun y => belowL y x.data.toList) (nsOf L) k ++ [p.data.toList] from takeF_hit HX.out hb)
            clear hb
            go_wp2_with (first | (go_at_call 44; refine (IB.out _).mono ?_; rintro e w3 ⟨rfl, hw3⟩; have hw3 := hw3.symm; subst hw3) | (at_builtin; (refine appText _ rfl (.tmp 31) (.tmp 38) rfl w2.heap.size _ (takeF (fun y => belowL y x.data.toList) (nsOf L) k) (by rfl) HO.out p _ _ _ (by rfl) (by simp) (by omega) HBx.out.size ?_)))
            intro v' w4 ho4 hb4
            have HO4 := hid ho4
            have HB4 := hid (HBx.out.trans hb4)
            clear ho4 hb4
            go_wp2_with fail
            go_roundw
            case rel => exact ⟨k + 1, by go_num, by omega, by rw [HF.out]; simpa using HO4.out, HB4.out⟩
            case measure => simp [intOf]; omega
        · obtain rfl : k = n1 := by omega
          have HF := hid (show branchT L H q x.data.toList = takeF (fun y => belowL y x.data.toList) (nsOf L) k by rw [HE.out, takeF_all (by rw [HV.out.2.2.1]; exact Nat.le_refl _)])
          go_wp2_with fail
          go_ret
          exact ⟨_, rfl, by rw [HF.out]; exact own_base HO.out HB2.out.size, HW.out⟩

theorem eq_boolN (a b : ByteArray) : ∃ z, (a.toList == b.toList) = z ∧ decide (a.data.toList = b.data.toList) = z := ⟨_, rfl, (beq_txt a b).symm⟩

end Go.Proofs.Ytcgcbgbmofooiaa

/-
  WALKS: the model's effective, EffectiveLevel, enabled, IsEnabled.
-/
namespace Go.Proofs.Ytcgcbgbmofooiaa
open Go.RowKit Nm
set_option linter.unusedSimpArgs false
set_option linter.unusedVariables false

theorem txt_len {n : Nat} (h : n ≤ maxTxt) : n ≤ maxLen := by unfold maxTxt at h; unfold maxLen; omega
theorem lvAt_nonneg {L : List Lgr} (h : ∀ l ∈ L, 0 ≤ l.lv) (k : Nat) : 0 ≤ lvAt L k := by
  unfold lvAt
  by_cases hk : k < L.length
  · have e : (L.map (·.lv)).getD k 0 = L[k].lv := by simp [List.getD, hk]
    rw [e]; exact h _ (List.getElem_mem _)
  · have e : (L.map (·.lv)).getD k 0 = 0 := by simp [List.getD, Nat.le_of_not_lt hk]
    rw [e]; exact Int.le_refl _
theorem firstLv_at {l : List Int} {k : Nat} {a : Int} (h : ∀ x ∈ l.take k, ¬ 0 < x) (hk : l[k]? = some a) (ha : 0 < a) : firstLv l = a := by
  rw [firstLv_skip h]
  have e : l.drop k = a :: l.drop (k + 1) := by
    have hl := (List.getElem?_eq_some_iff.1 hk)
    rw [List.drop_eq_getElem_cons hl.1, hl.2]
  rw [e, firstLv, if_pos ha]
theorem firstLv_none {l : List Int} (h : ∀ x ∈ l, ¬ 0 < x) : firstLv l = 0 := by
  rw [firstLv_skip (k := l.length) (by rw [List.take_length]; exact h), List.drop_length]; rfl

end Go.Proofs.Ytcgcbgbmofooiaa
