/-
  WALKS: the program's ChildrenOf, level, EffectiveLevel, IsEnabled.
-/
import Derived.Test.YtlhelhfaogcibaaN10
namespace Go.Proofs.Ytlhelhfaogcibaa
open Go.RowKit Nm
set_option linter.unusedSimpArgs false
set_option linter.unusedVariables false

set_option maxHeartbeats 8000000 in
set_option maxRecDepth 100000 in
theorem implChildrenOf_c {w : World} {B : Nat} {v : Value} {L : List Lgr} {H : List Hnd} {q : Int} (x : ByteArray) (h : TreeIn w B v L H q) (hB : B ≤ w.heap.size) :
    Calls Try.prog 25 #[v, .string x] w (StrsPost w (childrenT L H q x.data.toList)) := by
  have C := hid (fun (W : World) (hW : Below w.heap.size w W) => implValidTreeX_c (h.below hW hB) (Nat.le_trans hB hW.size))
  cases hz : treeOk L H q with
  | false =>
    have HE := hid (show childrenT L H q x.data.toList = [] by unfold childrenT; rw [hz]; rfl)
    obtain ⟨A1, n1, k1, A2, n2, k2, rfl⟩ := h.form
    rw [hz] at C
    clear h hz
    go_enter Try.func25, Try.ntmps25
    go_wp2_with fail
    refine (C.out _ ?_).mono ?_
    case refine_1 => go_grown
    rintro e w1 ⟨rfl, hb1⟩
    have HB1 := hid (Below.trans (by go_grown) (hb1.mono (by simp; try omega)) : Below w.heap.size w w1)
    clear hb1
    go_wp2_with fail
    go_ret
    exact ⟨_, rfl, by rw [HE.out]; exact World.ownsRow_nil _ _ _ _, HB1.out⟩
  | true =>
    rw [hz] at C
    obtain ⟨b, o, n1, k1, A2, n2, k2, ls, rfl, hl, hL, hN, hn, hn8, hn1, hbB⟩ := h.opened hz
    obtain ⟨h0, hnd, hnm, hlen, _⟩ := tree_ns hz
    rw [← hn] at hlen
    have HE := hid (show childrenT L H q x.data.toList = (nsOf L).filter (childOk (nsOf L) x.data.toList) by unfold childrenT; rw [hz]; rfl)
    have G := hid (fun (W : World) (hW : Below w.heap.size w W) => implHang_c none A2 n1 k1 n2 k2 B b o q ls W (hl.below hW hB) (Nat.le_trans hB hW.size) (by omega) (by rw [hN]; exact h0) (by rw [hN]; exact hnd) (by rw [hN]; exact hnm))
    rw [hN] at G
    have HV := hid (And.intro hl (And.intro hL (And.intro hlen (And.intro hbB (And.intro h0 (And.intro hnd hnm))))))
    clear h hz hl hN hn hL hlen h0 hnd hnm
    go_enter Try.func25, Try.ntmps25
    go_wp2_with fail
    refine (C.out _ ?_).mono ?_
    case refine_1 => go_grown
    rintro e w1 ⟨rfl, hb1⟩
    have K1 := (Blk.new _ _ _).to hb1
    simp only [World.size_alloc] at K1
    have HK1 := hid K1
    have HB1 := hid (Below.trans (by go_grown) (hb1.mono (by simp; try omega)) : Below w.heap.size w w1)
    clear hb1 K1
    have d0 := (HK1.out.2 0 _ rfl).1
    have d1 := (HK1.out.2 1 _ rfl).1
    have d2 := (HK1.out.2 2 _ rfl).1
    go_wp2_with fail
    refine (G.out _ HB1.out).mono ?_
    rintro e w2 ⟨M, nb, m, rfl, hM, hNd, hb2⟩
    have HB2 := hid (HB1.out.trans (hb2.mono HB1.out.size))
    have HK2 := hid (HK1.out.to hb2)
    have HM := hid hM
    have HNd := hid hNd
    clear hb2 d0 d1 d2 hM hNd
    have d0 := (HK2.out.2 0 _ rfl).1
    go_wp2_with fail
    clear d0
    go_loopw [6, 18] (fun sv iv wr => ∃ (k : Nat), iv = .int .i64 k ∧ k ≤ n1 ∧ wr.ownsRow w2.heap.size 9 1 sv (takeF (childOk (nsOf L) x.data.toList) (nsOf L) k).length ((takeF (childOk (nsOf L) x.data.toList) (nsOf L) k).map txt) ∧ Hid (Below w2.heap.size w2 wr)) (fun _ iv _ => n1 - (intOf iv).toNat)
    case atStart => exact ⟨0, rfl, by omega, World.ownsRow_nil _ _ _ _, Below.refl _ _⟩
    case round =>
      obtain ⟨k, rfl, hk, hown, HBx⟩ := hrel
      have hfl := takeF_len (childOk (nsOf L) x.data.toList) (nsOf L) k
      obtain ⟨Ax, cx, rfl, _, _⟩ := (Sl.of_own hown).form
      have HO := hid hown
      clear hown
      have HW := hid (HB2.out.trans (HBx.out.mono HB2.out.size))
      by_cases hlt : k < n1
      · obtain ⟨p, A3, hn', k3, A4, fn, k4, hp, hps, _, _, c0, c1, c2, c3, c4, c5⟩ := logger_at (HV.out.1.below HW.out hB) HV.out.2.1 hlt
        have hpm : p.size ≤ maxLen := by unfold maxTxt at hps; unfold maxLen; omega
        have HX := hid (show (nsOf L)[k]? = some p.data.toList by rw [hp]; exact getD_at (by rw [HV.out.2.2.1]; exact hlt))
        have HB0 := hid (HBx.out.alloc HBx.out.size (.cells #[.string p, .int .i64 (lvAt L k), .slice A3 hn' k3, .slice A4 fn k4, .bool (stopAt L k), .bool (offAt L k)] 55))
        have HO0 := hid (HO.out.alloc (.cells #[.string p, .int .i64 (lvAt L k), .slice A3 hn' k3, .slice A4 fn k4, .bool (stopAt L k), .bool (offAt L k)] 55))
        have HM0 := hid (HM.out.under HB0.out HM.out.lt)
        have hlook0 := HM0.out.look Try.underlying71 (zeroNode _) p hpm
        rw [hp, gF_hit HV.out.2.2.2.2.2.1 (Nat.le_refl _) (by rw [HV.out.2.2.1]; exact hlt)] at hlook0
        have hlook : (Instr.lookup 71 (.map (some M)) (.string p) false).run Try.prog (wr.alloc (.cells #[.string p, .int .i64 (lvAt L k), .slice A3 hn' k3, .slice A4 fn k4, .bool (stopAt L k), .bool (offAt L k)] 55)) = .ok (.pointer (some ⟨nb k, 0, none⟩)) (wr.alloc (.cells #[.string p, .int .i64 (lvAt L k), .slice A3 hn' k3, .slice A4 fn k4, .bool (stopAt L k), .bool (offAt L k)] 55)) := hlook0
        have HN0 := hid (HNd.out.below HB0.out (fun j hj => (HNd.out j hj).1))
        obtain ⟨m0, m1, m2, mlt⟩ := node_at HN0.out (k := k) (by rw [HV.out.2.2.1]; exact hlt)
        have HM12 := hid (And.intro m1 (And.intro m2 mlt))
        have HPe := hid hp
        clear hp hps hlook0 m1 m2 mlt
        by_cases hr : p.data.toList = []
        · have m1 := HM12.out.1 (by rw [← HPe.out, hr])
          have HF := hid (show takeF (childOk (nsOf L) x.data.toList) (nsOf L) (k + 1) = takeF (childOk (nsOf L) x.data.toList) (nsOf L) k from takeF_miss HX.out (by unfold childOk; rw [decide_eq_true hr]; rfl))
          clear hr
          go_wp2_with fail
          go_roundw
          case rel => exact ⟨k + 1, by go_num, by omega, by rw [HF.out]; exact HO0.out, HB0.out⟩
          case measure => simp [intOf]; omega
        · have m2 := HM12.out.2.1 (by rw [← HPe.out]; exact hr)
          have hul : upN (nsOf L) k < n1 := by rw [← HV.out.2.2.1]; exact near_lt HV.out.2.2.2.2.1 _
          obtain ⟨p', A3', hn'', k3', A4', fn', k4', hp', hps', _, _, g0, _⟩ := logger_at (HV.out.1.below (HB2.out.trans (HB0.out.mono HB2.out.size)) hB) HV.out.2.1 hul
          have m0' := (node_at HN0.out (k := upN (nsOf L) k) (by rw [HV.out.2.2.1]; exact hul)).1
          have HC := hid (show childOk (nsOf L) x.data.toList p.data.toList = decide (p'.data.toList = x.data.toList) by
            unfold childOk; rw [decide_eq_false hr, hp', HPe.out]; rfl)
          clear hr hp' hps'
          by_cases hq : p'.data.toList = x.data.toList
          · have e1 := eq_true_of hq
            have HF := hid (show takeF (childOk (nsOf L) x.data.toList) (nsOf L) (k + 1) = takeF (childOk (nsOf L) x.data.toList) (nsOf L) k ++ [p.data.toList] from takeF_hit HX.out (by rw [HC.out, decide_eq_true hq]))
            clear hq
            go_wp2_with (at_builtin; (refine appText _ rfl (.tmp 42) (.tmp 45) rfl w2.heap.size _ (takeF (childOk (nsOf L) x.data.toList) (nsOf L) k) (by rfl) HO0.out p _ _ _ (by rfl) (by simp) (by omega) HB0.out.size ?_))
            intro v' w4 ho4 hb4
            have HO4 := hid ho4
            have HB4 := hid (HB0.out.trans hb4)
            clear ho4 hb4
            go_wp2_with fail
            go_roundw
            case rel => exact ⟨k + 1, by go_num, by omega, by rw [HF.out]; simpa using HO4.out, HB4.out⟩
            case measure => simp [intOf]; omega
          · have e1 := eq_false_of hq
            have HF := hid (show takeF (childOk (nsOf L) x.data.toList) (nsOf L) (k + 1) = takeF (childOk (nsOf L) x.data.toList) (nsOf L) k from takeF_miss HX.out (by rw [HC.out, decide_eq_false hq]))
            clear hq
            go_wp2_with fail
            go_roundw
            case rel => exact ⟨k + 1, by go_num, by omega, by rw [HF.out]; exact HO0.out, HB0.out⟩
            case measure => simp [intOf]; omega
      · obtain rfl : k = n1 := by omega
        have HF := hid (show childrenT L H q x.data.toList = takeF (childOk (nsOf L) x.data.toList) (nsOf L) k by rw [HE.out, takeF_all (by rw [HV.out.2.2.1]; exact Nat.le_refl _)])
        go_wp2_with fail
        go_ret
        exact ⟨_, rfl, by rw [HF.out]; exact own_base HO.out HB2.out.size, HW.out⟩

theorem levelF_stop {ns : List Name} {lv : Nat → Int} {f k : Nat} (h : lv k ≠ 0 ∨ ns.getD k [] = []) : levelF ns lv f k = lv k := by
  cases f with
  | zero => rfl
  | succ f => rw [levelF, if_pos h]
theorem levelF_up {ns : List Name} {lv : Nat → Int} {f k : Nat} (h1 : lv k = 0) (h2 : ns.getD k [] ≠ []) : levelF ns lv (f + 1) k = levelF ns lv f (upN ns k) := by
  rw [levelF, if_neg]
  rintro (h | h)
  · exact h h1
  · exact h2 h

set_option maxHeartbeats 4000000 in
set_option maxRecDepth 100000 in
theorem implLevel_c {w : World} {B b o n1 k1 : Nat} {L : List Lgr} {ls : List LgrV} {nb : Nat → Nat} (k0 f0 : Nat) (hl : Ls w B n1 (.slice (some ⟨b, o, none⟩) n1 k1) ls) (hL : lsOf ls = L) (hlen : (nsOf L).length = n1) (h0 : (nsOf L)[0]? = some []) (hnm : ∀ z ∈ nsOf L, nameOk z = true)
    (hNd : Nodes w b o (nsOf L) nb (fun _ => false)) (hk0 : k0 < n1) (hd0 : depthN (nsOf L) k0 ≤ f0) :
    Calls Try.prog 58 #[.pointer (some ⟨nb k0, 0, none⟩)] w (fun e w' => e = .returned (.int .i64 (levelF (nsOf L) (lvAt L) f0 k0)) ∧ w = w') := by
  have HV := hid (And.intro hl (And.intro hL (And.intro hlen (And.intro h0 (And.intro hnm hNd)))))
  clear hl hL hlen h0 hnm hNd
  go_enter Try.func58, Try.ntmps58
  go_wp2_with fail
  go_loopg [0] (f0 + 1) (fun g nv wr => ∃ (k f : Nat), nv = .pointer (some ⟨nb k, 0, none⟩) ∧ k < n1 ∧ depthN (nsOf L) k ≤ f ∧ f + 1 = g ∧ Hid (levelF (nsOf L) (lvAt L) f k = levelF (nsOf L) (lvAt L) f0 k0) ∧ wr = w)
  case atStart => exact ⟨k0, f0, rfl, hk0, hd0, rfl, rfl, rfl⟩
  case round =>
    obtain ⟨k, f, rfl, hk, hd, rfl, HE, rfl⟩ := hrel
    obtain ⟨p, A3, hn', k3, A4, fn, k4, hp, hps, _, _, c0, c1, _⟩ := logger_at HV.out.1 HV.out.2.1 hk
    obtain ⟨m0, m1, m2, mlt⟩ := node_at HV.out.2.2.2.2.2 (k := k) (by rw [HV.out.2.2.1]; exact hk)
    have HM12 := hid (And.intro m1 m2)
    clear hp hps m1 m2 mlt
    by_cases hz : lvAt L k = 0
    · have e1 : (lvAt L k == 0) = true := by rw [hz]; rfl
      by_cases hr : (nsOf L).getD k [] = []
      · have m1 := HM12.out.1 hr
        have HF := hid (show levelF (nsOf L) (lvAt L) f0 k0 = lvAt L k by rw [← HE.out, levelF_stop (.inr hr)])
        clear hr hz
        go_wp2_with fail
        go_ret
        exact ⟨by rw [HF.out]; rfl, rfl⟩
      · have m2 := HM12.out.2 hr
        obtain ⟨g, rfl, _⟩ := pathF_up (ns := nsOf L) (f := f) (k := k) hr hd
        have HF := hid (show levelF (nsOf L) (lvAt L) g (upN (nsOf L) k) = levelF (nsOf L) (lvAt L) f0 k0 by rw [← HE.out, levelF_up hz hr])
        have HU := hid (show upN (nsOf L) k < n1 ∧ depthN (nsOf L) (upN (nsOf L) k) ≤ g by
          refine ⟨by rw [← HV.out.2.2.1]; exact near_lt HV.out.2.2.2.1 _, ?_⟩
          have := depth_up HV.out.2.2.2.1 HV.out.2.2.2.2.1 (k := k) (by rw [HV.out.2.2.1]; exact hk) hr
          omega)
        clear hr hz
        go_wp2_with fail
        go_roundg (g + 1)
        case measure => omega
        case rel => exact ⟨_, g, rfl, HU.out.1, HU.out.2, rfl, HF.out, rfl⟩
    · have e1 : (lvAt L k == 0) = false := by simpa using hz
      have HF := hid (show levelF (nsOf L) (lvAt L) f0 k0 = lvAt L k by rw [← HE.out, levelF_stop (.inl hz)])
      clear hz
      go_wp2_with fail
      go_ret
      exact ⟨by rw [HF.out]; rfl, rfl⟩

set_option maxHeartbeats 4000000 in
set_option maxRecDepth 100000 in
theorem implEffectiveLevel_c {w : World} {B : Nat} {v : Value} {L : List Lgr} {H : List Hnd} {q : Int} (x : ByteArray) (h : TreeIn w B v L H q) (hB : B ≤ w.heap.size) (hx : x.size ≤ maxLen) :
    Calls Try.prog 29 #[v, .string x] w (fun e w' => e = .returned (.int .i64 (levelT L H q x.data.toList)) ∧ Below w.heap.size w w') := by
  cases hz : (treeOk L H q && nameOk x.data.toList) with
  | false =>
    have C := hid (fun (W : World) (hW : Below w.heap.size w W) => implNode_no x (h.below hW hB) (Nat.le_trans hB hW.size) hx hz)
    have HE := hid (show levelT L H q x.data.toList = -1 by unfold levelT; rw [hz]; rfl)
    obtain ⟨A1, n1, k1, A2, n2, k2, rfl⟩ := h.form
    clear h hz
    go_enter Try.func29, Try.ntmps29
    go_wp2_with fail
    refine (C.out _ ?_).mono ?_
    case refine_1 => go_grown
    rintro e w1 ⟨rfl, hb1⟩
    have HB1 := hid (Below.trans (by go_grown) (hb1.mono (by simp; try omega)) : Below w.heap.size w w1)
    clear hb1
    go_wp2_with fail
    go_ret
    exact ⟨by rw [HE.out]; rfl, HB1.out⟩
  | true =>
    have hz' := hz
    simp only [Bool.and_eq_true] at hz'
    obtain ⟨b, o, n1, k1, A2, n2, k2, ls, rfl, hl, hL, hN, hn, hn8, hn1, hbB⟩ := h.opened hz'.1
    have C := hid (fun (W : World) (hW : Below w.heap.size w W) => implNode_yes x (h.below hW hB) (hl.below hW hB) hn8 hN (Nat.le_trans hB hW.size) hz'.2 hz'.1)
    obtain ⟨h0, hnd, hnm, hlen, _⟩ := tree_ns hz'.1
    rw [← hn] at hlen
    have HE := hid (show levelT L H q x.data.toList = levelF (nsOf L) (lvAt L) 4 (nearN (nsOf L) x.data.toList) by unfold levelT; rw [hz]; rfl)
    have LV := hid (fun (nb : Nat → Nat) (W : World) (hW : Below w.heap.size w W) (hNd : Nodes W b o (nsOf L) nb (fun _ => false)) => implLevel_c (nearN (nsOf L) x.data.toList) 4 (hl.below hW hB) hL hlen h0 hnm hNd (by rw [← hlen]; exact near_lt h0 _) (depth_le hnm _))
    clear h hz hz' hl hN h0 hnd hnm hn hlen hL
    go_enter Try.func29, Try.ntmps29
    go_wp2_with fail
    refine (C.out _ ?_).mono ?_
    case refine_1 => go_grown
    rintro e w1 ⟨nb, rfl, hNd, hb1⟩
    have HB1 := hid (Below.trans (by go_grown) (hb1.mono (by simp; try omega)) : Below w.heap.size w w1)
    have LE := hid (LV.out nb w1 HB1.out hNd)
    clear hb1 hNd
    go_wp2_with fail
    refine (LE.out).mono ?_
    rintro e w2 ⟨rfl, rfl⟩
    go_wp2_with fail
    go_ret
    exact ⟨by rw [HE.out]; rfl, HB1.out⟩

set_option maxHeartbeats 4000000 in
set_option maxRecDepth 100000 in
theorem implIsEnabled_c {w : World} {B : Nat} {v : Value} {L : List Lgr} {H : List Hnd} {q : Int} (x : ByteArray) (lv : Int) (h : TreeIn w B v L H q) (hB : B ≤ w.heap.size) (hx : x.size ≤ maxLen) :
    Calls Try.prog 31 #[v, .string x, .int .i64 lv] w (BoolPost w (isEnabledT L H q x.data.toList lv)) := by
  cases hz : (treeOk L H q && nameOk x.data.toList) with
  | false =>
    have C := hid (fun (W : World) (hW : Below w.heap.size w W) => implNode_no x (h.below hW hB) (Nat.le_trans hB hW.size) hx hz)
    have HE := hid (show isEnabledT L H q x.data.toList lv = false by unfold isEnabledT; rw [hz]; rfl)
    obtain ⟨A1, n1, k1, A2, n2, k2, rfl⟩ := h.form
    clear h hz
    go_enter Try.func31, Try.ntmps31
    go_wp2_with fail
    refine (C.out _ ?_).mono ?_
    case refine_1 => go_grown
    rintro e w1 ⟨rfl, hb1⟩
    have HB1 := hid (Below.trans (by go_grown) (hb1.mono (by simp; try omega)) : Below w.heap.size w w1)
    clear hb1
    go_wp2_with fail
    go_ret
    exact ⟨ret_bool HE.out.symm, HB1.out⟩
  | true =>
    have hz' := hz
    simp only [Bool.and_eq_true] at hz'
    obtain ⟨b, o, n1, k1, A2, n2, k2, ls, rfl, hl, hL, hN, hn, hn8, hn1, hbB⟩ := h.opened hz'.1
    have C := hid (fun (W : World) (hW : Below w.heap.size w W) => implNode_yes x (h.below hW hB) (hl.below hW hB) hn8 hN (Nat.le_trans hB hW.size) hz'.2 hz'.1)
    obtain ⟨h0, hnd, hnm, hlen, _⟩ := tree_ns hz'.1
    rw [← hn] at hlen
    have HE := hid (show isEnabledT L H q x.data.toList lv = ((decide (1 ≤ lv) && decide (lv ≤ 60)) && enabledT L q x.data.toList lv) by unfold isEnabledT; rw [hz]; rfl)
    have LV := hid (fun (nb : Nat → Nat) (W : World) (hW : Below w.heap.size w W) (hNd : Nodes W b o (nsOf L) nb (fun _ => false)) => implLevel_c (nearN (nsOf L) x.data.toList) 4 (hl.below hW hB) hL hlen h0 hnm hNd (by rw [← hlen]; exact near_lt h0 _) (depth_le hnm _))
    have hlt : nearN (nsOf L) x.data.toList < n1 := by rw [← hlen]; exact near_lt h0 _
    have HV := hid (And.intro hl (And.intro hL hlen))
    have HO := hid (show ((nsOf L).getD (nearN (nsOf L) x.data.toList) [] = x.data.toList → offT L x.data.toList = offAt L (nearN (nsOf L) x.data.toList)) ∧ ((nsOf L).getD (nearN (nsOf L) x.data.toList) [] ≠ x.data.toList → offT L x.data.toList = false) by
      refine ⟨fun e => ?_, fun e => ?_⟩
      · have := getD_at (ns := nsOf L) (j := nearN (nsOf L) x.data.toList) (by rw [hlen]; exact hlt)
        rw [e] at this
        unfold offT
        rw [decide_eq_true (List.mem_of_getElem? this)]; rfl
      · have : x.data.toList ∉ nsOf L := by
          intro hm
          obtain ⟨j, hj, e1⟩ := List.getElem_of_mem hm
          have e2 : (nsOf L)[j]? = some x.data.toList := by rw [List.getElem?_eq_getElem hj, e1]
          exact e (by rw [near_hit h0 hnd _ _ e2]; exact at_getD e2)
        unfold offT
        rw [decide_eq_false this]; rfl)
    have HL := hid (show levelN (nsOf L) (lvAt L) x.data.toList = levelF (nsOf L) (lvAt L) 4 (nearN (nsOf L) x.data.toList) from rfl)
    clear h hz hz' hl hN h0 hnd hnm hn hlen hL
    generalize hk : nearN (nsOf L) x.data.toList = k at *
    clear hk
    go_enter Try.func31, Try.ntmps31
    go_wp2_with fail
    refine (C.out _ ?_).mono ?_
    case refine_1 => go_grown
    rintro e w1 ⟨nb, rfl, hNd, hb1⟩
    have K1 := (Blk.new _ _ _).to hb1
    simp only [World.size_alloc] at K1
    have d2 := (K1.2 2 _ rfl).1
    have HB1 := hid (Below.trans (by go_grown) (hb1.mono (by simp; try omega)) : Below w.heap.size w w1)
    have LE := hid (LV.out nb w1 HB1.out hNd)
    obtain ⟨p, A3, hn', k3, A4, fn, k4, hp, hps, _, _, c0, c1, c2, c3, c4, c5⟩ := logger_at (HV.out.1.below HB1.out hB) HV.out.2.1 hlt
    have m0 := (node_at hNd (k := k) (by rw [HV.out.2.2]; exact hlt)).1
    have HPe := hid hp
    clear hb1 hNd hp hps K1
    by_cases h1 : 1 ≤ lv
    · by_cases h60 : lv ≤ 60
      · have HE2 := hid (show isEnabledT L H q x.data.toList lv = (!offT L x.data.toList && (decide (q < lv) && decide (levelF (nsOf L) (lvAt L) 4 k ≤ lv))) by
          rw [HE.out, decide_eq_true h1, decide_eq_true h60]; unfold enabledT; rw [HL.out]; rfl)
        by_cases hpx : p.data.toList = x.data.toList
        · have e1 := eq_true_of hpx
          have HO1 := hid (HO.out.1 (by rw [← HPe.out, hpx]))
          cases hof : offAt L k with
          | true =>
            rw [hof] at c5
            have HF := hid (show isEnabledT L H q x.data.toList lv = false by rw [HE2.out, HO1.out, hof]; rfl)
            clear hpx hof
            go_wp2_with fail
            go_ret
            exact ⟨ret_bool HF.out.symm, HB1.out⟩
          | false =>
            rw [hof] at c5
            have HF := hid (show isEnabledT L H q x.data.toList lv = (decide (q < lv) && decide (levelF (nsOf L) (lvAt L) 4 k ≤ lv)) by rw [HE2.out, HO1.out, hof]; rfl)
            clear hpx hof
            by_cases hq : q < lv
            · have HF2 := hid (show isEnabledT L H q x.data.toList lv = decide (levelF (nsOf L) (lvAt L) 4 k ≤ lv) by rw [HF.out, decide_eq_true hq]; rfl)
              go_wp2_with (go_at_call 58; refine (LE.out).mono ?_; rintro e w2 ⟨rfl, rfl⟩)
              go_ret
              exact ⟨ret_bool HF2.out.symm, HB1.out⟩
            · have HF2 := hid (show isEnabledT L H q x.data.toList lv = false by rw [HF.out, decide_eq_false hq]; rfl)
              go_wp2_with fail
              go_ret
              exact ⟨ret_bool HF2.out.symm, HB1.out⟩
        · have e1 := eq_false_of hpx
          have HF := hid (show isEnabledT L H q x.data.toList lv = (decide (q < lv) && decide (levelF (nsOf L) (lvAt L) 4 k ≤ lv)) by rw [HE2.out, HO.out.2 (by rw [← HPe.out]; exact hpx)]; rfl)
          clear hpx
          by_cases hq : q < lv
          · have HF2 := hid (show isEnabledT L H q x.data.toList lv = decide (levelF (nsOf L) (lvAt L) 4 k ≤ lv) by rw [HF.out, decide_eq_true hq]; rfl)
            go_wp2_with (go_at_call 58; refine (LE.out).mono ?_; rintro e w2 ⟨rfl, rfl⟩)
            go_ret
            exact ⟨ret_bool HF2.out.symm, HB1.out⟩
          · have HF2 := hid (show isEnabledT L H q x.data.toList lv = false by rw [HF.out, decide_eq_false hq]; rfl)
            go_wp2_with fail
            go_ret
            exact ⟨ret_bool HF2.out.symm, HB1.out⟩
      · have HF := hid (show isEnabledT L H q x.data.toList lv = false by rw [HE.out, decide_eq_false h60]; simp)
        go_wp2_with fail
        go_ret
        exact ⟨ret_bool HF.out.symm, HB1.out⟩
    · have HF := hid (show isEnabledT L H q x.data.toList lv = false by rw [HE.out, decide_eq_false h1]; rfl)
      go_wp2_with fail
      go_ret
      exact ⟨ret_bool HF.out.symm, HB1.out⟩
end Go.Proofs.Ytlhelhfaogcibaa
