/-
  RULES ADDED: AddRule of the model. By gen_ar4.py.
-/
import Derived.Test.YthggedmgjehfiaaAR3
namespace Go.Proofs.Ythggedmgjehfiaa
open Go.RowKit Nm
set_option linter.unusedSimpArgs false
set_option linter.unusedVariables false

theorem notR_of {ac xa ln xl : Int} {wd xw md xm : ByteArray} (h : ¬ (ac = xa ∧ wd = xw ∧ md = xm ∧ ln = xl)) : notR ⟨xa, xw.data.toList, xm.data.toList, xl⟩ ⟨ac, wd.data.toList, md.data.toList, ln⟩ = true := by
  unfold notR
  simp only [Bool.not_eq_true', decide_eq_false_iff_not, Rul.mk.injEq, bytes_eq_iff]
  exact h
set_option maxHeartbeats 8000000 in
set_option maxRecDepth 100000 in
theorem specAddRule_c (v : Value) (n B : Nat) (l : List Rul) (xa xl : Int) (xw xm : ByteArray) (fr : Bool) (w : World) (hv : Ruls w B n v l) (hB : B ≤ w.heap.size) (h1 : xw.size ≤ maxTxt) (h2 : xm.size ≤ maxTxt) :
    Calls Try.prog 7 #[v, .agg #[.int .i64 xa, .string xw, .string xm, .int .i64 xl], .bool fr] w (AddPost w (addROk l ⟨xa, xw.data.toList, xm.data.toList, xl⟩ fr) (addRX l ⟨xa, xw.data.toList, xm.data.toList, xl⟩ fr)) := by
  have hln := hv.count
  have HX := hid (show rucells ⟨xa, xw.data.toList, xm.data.toList, xl⟩ = [.int .i64 xa, .string xw, .string xm, .int .i64 xl] by simp [rucells, txt_data])
  have hxf : rucellsFit ⟨xa, xw.data.toList, xm.data.toList, xl⟩ := ⟨by rw [← Lib.size_eq]; exact h1, by rw [← Lib.size_eq]; exact h2⟩
  have HFX := hid hxf
  have hb0 : Below w.heap.size w (w.alloc (.cells #[.int .i64 xa, .string xw, .string xm, .int .i64 xl] 31)) := (Below.refl _ _).alloc (Nat.le_refl _) _
  have K0 := Blk.new w #[.int .i64 xa, .string xw, .string xm, .int .i64 xl] 31
  have HK0 := hid (show RuleAt (w.alloc (.cells #[.int .i64 xa, .string xw, .string xm, .int .i64 xl] 31)) w.heap.size xa xw xm xl from ⟨(K0.2 0 _ rfl).1, (K0.2 1 _ rfl).1, (K0.2 2 _ rfl).1, (K0.2 3 _ rfl).1⟩)
  have HB0 := hid hb0
  have hs0 : w.heap.size < (w.alloc (.cells #[.int .i64 xa, .string xw, .string xm, .int .i64 xl] 31)).heap.size := by simp
  obtain ⟨A, c, rfl, hnc, hcm⟩ := hv.1.form
  have CV := hid (fun (v : Value) (m : Nat) (d : List Rul) (W : World) (h : Ruls W W.heap.size m v d) => specValidRules_c v m W.heap.size d W h (Nat.le_refl _))
  have C1 := hid (specValidRules_c _ n B l (w.alloc (.cells #[.int .i64 xa, .string xw, .string xm, .int .i64 xl] 31)) (hv.below hb0 hB) (Nat.le_trans hB hb0.size))
  have HV := hid (And.intro (hv.below hb0 hB) (And.intro hln (Nat.le_trans hB hb0.size)))
  unfold maxLen at hcm
  have HFl := hid hv.2
  clear hv hb0 K0 hxf
  generalize hX : (⟨xa, xw.data.toList, xm.data.toList, xl⟩ : Rul) = X at *
  cases hr : rulsOk l with
  | false =>
    rw [hr] at C1
    have HD := hid (show addROk l X fr = false by unfold addROk; rw [hr]; rfl)
    clear hr
    go_enter Try.func7, Try.ntmps7
    go_wp2_with fail
    refine C1.out.mono ?_
    rintro e w1 ⟨rfl, hb⟩
    have HB1 := hid (HB0.out.trans (hb.mono HB0.out.size))
    clear hb
    go_wp2_with fail
    refine bodyPost_ret (v := .tuple #[.slice none 0 0, .bool false]) (by simp [results, Try.results7, go_sem]) rfl ?_
    exact add_none HD.out HB1.out
  | true =>
  rw [hr] at C1
  have hn6 : n ≤ 6 := by have := rulsOk_le hr; omega
  have HR := hid hr
  have HFIN := hid (show ∀ (W : World) (v' : Value), W.ownsRow w.heap.size 31 4 v' (addR l X fr).length ((addR l X fr).flatMap rucells) → Ruls W W.heap.size (addR l X fr).length v' (addR l X fr) from fun W v' h => ⟨Sl.of_own h, fun y hy => by
    unfold addR at hy
    split at hy
    · rcases List.mem_cons.1 hy with rfl | hy
      · exact HFX.out
      · exact HFl.out y (List.mem_filter.1 hy).1
    · rcases List.mem_append.1 hy with hy | hy
      · exact HFl.out y (List.mem_filter.1 hy).1
      · rw [List.mem_singleton.1 hy]; exact HFX.out⟩)
  clear hr
  go_enter Try.func7, Try.ntmps7
  go_wp2_with fail
  refine C1.out.mono ?_
  rintro e w1 ⟨rfl, hb⟩
  have HB1 := hid (HB0.out.trans (hb.mono HB0.out.size))
  have HK1 := hid (HK0.out.below hb hs0)
  have HV1 := hid (And.intro (HV.out.1.below hb HV.out.2.2) (And.intro HV.out.2.1 (Nat.le_trans HV.out.2.2 hb.size)))
  have hs1 : w.heap.size < w1.heap.size := Nat.lt_of_lt_of_le hs0 hb.size
  have HOn := hid (World.ownsRow_lit (base := w1.heap.size) w1 #[] 0 (Nat.le_refl _) (by unfold maxLen; omega) rfl : (w1.alloc (.cells #[] 31)).ownsRow w1.heap.size 31 4 (.slice (some ⟨w1.heap.size, 0, none⟩) 0 0) 0 [])
  have HBn := hid (show Below w1.heap.size w1 (w1.alloc (.cells #[] 31)) from (Below.refl _ _).alloc (Nat.le_refl _) _)
  clear hb C1 HB0 HK0 HV
  cases fr with
  | true =>
    obtain ⟨y0, y1, y2, y3⟩ := HK1.out.below HBn.out hs1
    go_wp2_with (at_builtin; refine appRule _ rfl (.tmp 15) (.tmp 17) rfl w1.heap.size _ [] (by rfl) HOn.out xa xw xm xl _ _ _ (by rfl) (by simp) (by simp) HBn.out.size ?_)
    intro v2 w2 ho hb
    have HO2 := hid (show w2.ownsRow w1.heap.size 31 4 v2 [X].length ([X].flatMap rucells) by
      first | (rw [hX] at ho) | skip
      simpa using ho)
    have HB2 := hid (HBn.out.trans hb)
    clear ho hb y0 y1 y2 y3 HOn HBn
    go_wp2_with fail
    go_loopw [8, 9] (fun v iv wr => ∃ (k : Nat) (x : List Rul), iv = .int .i64 k ∧ k ≤ n ∧ Hid (x = [X] ++ (l.take k).filter (notR X)) ∧ x.length ≤ k + 1 ∧ Hid (wr.ownsRow w1.heap.size 31 4 v x.length (x.flatMap rucells)) ∧ Hid (Below w1.heap.size w1 wr)) (fun _ iv _ => n - (intOf iv).toNat)
    case atStart => exact ⟨0, [X], rfl, by omega, rfl, by simp, HO2.out, HB2.out⟩
    case round =>
      obtain ⟨k, x, rfl, hk, HE, hxl, HOx, HBx⟩ := hrel
      obtain ⟨Ax, cx, rfl, _, _⟩ := (Sl.of_own HOx.out).form
      by_cases hlt : k < n
      · obtain ⟨b, o, ac, wd, md, ln, rfl, hbB, hx, c0, c1, c2, c3⟩ := rucells_at (HV1.out.1.1.below HBx.out HV1.out.2.2) hlt
        obtain ⟨y0, y1, y2, y3⟩ := HK1.out.below HBx.out hs1
        have HXk := hid hx
        have s0 : (0 : Int) ≤ (k : Int) := by omega
        have s1 : (k : Int) < (n : Int) := by omega
        have s2 : ((k : Int)).toNat = k := by simp
        clear hx
        by_cases e1 : ac = xa
        · subst e1
          by_cases e2 : wd = xw
          · subst e2
            by_cases e3 : md = xm
            · subst e3
              by_cases e4 : ln = xl
              · subst e4
                have hkd := hid (show x = [X] ++ (l.take (k + 1)).filter (notR X) by rw [filtR_drop HXk.out (by rw [← hX]; unfold notR; simp), HE.out])
                clear HXk
                go_wp2_with fail
                go_quiet (fail)
                go_wp2_with fail
                go_roundw
                case rel => exact ⟨k + 1, x, by go_num, by omega, hkd.out, by omega, own_below HOx.out (below_dr (Below.refl _ wr) _), below_dr HBx.out _⟩
                case measure => simp [intOf]; omega
              · have f4 : (ln == xl) = false := by simpa using e4
                have hkp := hid (show x ++ [(⟨ac, wd.data.toList, md.data.toList, ln⟩ : Rul)] = [X] ++ (l.take (k + 1)).filter (notR X) by rw [filtR_keep HXk.out (by rw [← hX]; exact notR_of (fun h => e4 h.2.2.2)), HE.out, List.append_assoc])
                clear HXk e4
                go_wp2_with fail
                go_quiet (fail)
                go_wp2_with (at_builtin; refine appRule _ rfl (.tmp 31) (.tmp 36) rfl w1.heap.size _ x (by rfl) (own_below HOx.out (below_dr (Below.refl _ wr) _)) ac wd md ln _ _ _ (by rfl) (by simp) (by omega) (below_dr HBx.out _).size ?_)
                intro v4 w4 ho hb
                have HO4 := hid (own_snoc ho)
                have HB4 := hid ((below_dr HBx.out _).trans hb)
                clear ho hb
                go_wp2_with fail
                go_roundw
                case rel => exact ⟨k + 1, _, by go_num, by omega, hkp.out, by rw [List.length_append]; show x.length + 1 ≤ _; omega, HO4.out, HB4.out⟩
                case measure => simp [intOf]; omega
            · have f3 := eq_false_of (fun h => e3 ((bytes_eq_iff _ _).1 h))
              have hkp := hid (show x ++ [(⟨ac, wd.data.toList, md.data.toList, ln⟩ : Rul)] = [X] ++ (l.take (k + 1)).filter (notR X) by rw [filtR_keep HXk.out (by rw [← hX]; exact notR_of (fun h => e3 h.2.2.1)), HE.out, List.append_assoc])
              clear HXk e3
              go_wp2_with fail
              go_quiet (fail)
              go_wp2_with (at_builtin; refine appRule _ rfl (.tmp 31) (.tmp 36) rfl w1.heap.size _ x (by rfl) (own_below HOx.out (below_dr (Below.refl _ wr) _)) ac wd md ln _ _ _ (by rfl) (by simp) (by omega) (below_dr HBx.out _).size ?_)
              intro v4 w4 ho hb
              have HO4 := hid (own_snoc ho)
              have HB4 := hid ((below_dr HBx.out _).trans hb)
              clear ho hb
              go_wp2_with fail
              go_roundw
              case rel => exact ⟨k + 1, _, by go_num, by omega, hkp.out, by rw [List.length_append]; show x.length + 1 ≤ _; omega, HO4.out, HB4.out⟩
              case measure => simp [intOf]; omega
          · have f2 := eq_false_of (fun h => e2 ((bytes_eq_iff _ _).1 h))
            have hkp := hid (show x ++ [(⟨ac, wd.data.toList, md.data.toList, ln⟩ : Rul)] = [X] ++ (l.take (k + 1)).filter (notR X) by rw [filtR_keep HXk.out (by rw [← hX]; exact notR_of (fun h => e2 h.2.1)), HE.out, List.append_assoc])
            clear HXk e2
            go_wp2_with fail
            go_quiet (fail)
            go_wp2_with (at_builtin; refine appRule _ rfl (.tmp 31) (.tmp 36) rfl w1.heap.size _ x (by rfl) (own_below HOx.out (below_dr (Below.refl _ wr) _)) ac wd md ln _ _ _ (by rfl) (by simp) (by omega) (below_dr HBx.out _).size ?_)
            intro v4 w4 ho hb
            have HO4 := hid (own_snoc ho)
            have HB4 := hid ((below_dr HBx.out _).trans hb)
            clear ho hb
            go_wp2_with fail
            go_roundw
            case rel => exact ⟨k + 1, _, by go_num, by omega, hkp.out, by rw [List.length_append]; show x.length + 1 ≤ _; omega, HO4.out, HB4.out⟩
            case measure => simp [intOf]; omega
        · have f1 : (ac == xa) = false := by simpa using e1
          have hkp := hid (show x ++ [(⟨ac, wd.data.toList, md.data.toList, ln⟩ : Rul)] = [X] ++ (l.take (k + 1)).filter (notR X) by rw [filtR_keep HXk.out (by rw [← hX]; exact notR_of (fun h => e1 h.1)), HE.out, List.append_assoc])
          clear HXk e1
          go_wp2_with fail
          go_quiet (fail)
          go_wp2_with (at_builtin; refine appRule _ rfl (.tmp 31) (.tmp 36) rfl w1.heap.size _ x (by rfl) (own_below HOx.out (below_dr (Below.refl _ wr) _)) ac wd md ln _ _ _ (by rfl) (by simp) (by omega) (below_dr HBx.out _).size ?_)
          intro v4 w4 ho hb
          have HO4 := hid (own_snoc ho)
          have HB4 := hid ((below_dr HBx.out _).trans hb)
          clear ho hb
          go_wp2_with fail
          go_roundw
          case rel => exact ⟨k + 1, _, by go_num, by omega, hkp.out, by rw [List.length_append]; show x.length + 1 ≤ _; omega, HO4.out, HB4.out⟩
          case measure => simp [intOf]; omega
      · have HL := hid (show x = [X] ++ l.filter (notR X) by rw [HE.out, List.take_of_length_le (by have := HV1.out.2.1; omega)])
        have hxn : x.length ≤ 7 := by omega
        obtain ⟨y0, y1, y2, y3⟩ := HK1.out.below HBx.out hs1
        have HBw := hid (HB1.out.trans (HBx.out.mono HB1.out.size))
        clear HE
        have hxe : x = addR l X true := HL.out
        subst hxe
        have HO4 := hid (own_base HOx.out (Nat.le_of_lt hs1))
        have HB4 := HBw
        clear HL
        have CW := hid (CV.out _ _ _ wr (HFIN.out wr _ HO4.out))
        cases hz : rulsOk (addR l X true) with
        | false =>
          rw [hz] at CW
          have HD := hid (show addROk l X true = false by unfold addROk; rw [hz, Bool.and_false])
          clear hz
          go_wp2_with fail
          refine CW.out.mono ?_
          rintro e w5 ⟨rfl, hb⟩
          have HB5 := hid (HB4.out.trans (hb.mono HB4.out.size))
          clear hb
          go_wp2_with fail
          refine bodyPost_ret (v := .tuple #[.slice none 0 0, .bool false]) (by simp [results, Try.results7, go_sem]) rfl ?_
          exact add_none HD.out HB5.out
        | true =>
          rw [hz] at CW
          have HD := hid (show addROk l X true = true by unfold addROk; rw [hz, HR.out]; rfl)
          clear hz
          go_wp2_with fail
          refine CW.out.mono ?_
          rintro e w5 ⟨rfl, hb⟩
          have HB5 := hid (HB4.out.trans (hb.mono HB4.out.size))
          have HO5 := hid (own_below HO4.out hb)
          clear hb
          go_wp2_with fail
          refine bodyPost_ret (by simp [results, Try.results7, go_sem]; rfl) rfl ?_
          exact add_some HD.out HO5.out HB5.out
  | false =>
    go_wp2_with fail
    go_loopw [8, 9] (fun v iv wr => ∃ (k : Nat) (x : List Rul), iv = .int .i64 k ∧ k ≤ n ∧ Hid (x = ([] : List Rul) ++ (l.take k).filter (notR X)) ∧ x.length ≤ k + 1 ∧ Hid (wr.ownsRow w1.heap.size 31 4 v x.length (x.flatMap rucells)) ∧ Hid (Below w1.heap.size w1 wr)) (fun _ iv _ => n - (intOf iv).toNat)
    case atStart => exact ⟨0, [], rfl, by omega, rfl, by simp, HOn.out, HBn.out⟩
    case round =>
      obtain ⟨k, x, rfl, hk, HE, hxl, HOx, HBx⟩ := hrel
      obtain ⟨Ax, cx, rfl, _, _⟩ := (Sl.of_own HOx.out).form
      by_cases hlt : k < n
      · obtain ⟨b, o, ac, wd, md, ln, rfl, hbB, hx, c0, c1, c2, c3⟩ := rucells_at (HV1.out.1.1.below HBx.out HV1.out.2.2) hlt
        obtain ⟨y0, y1, y2, y3⟩ := HK1.out.below HBx.out hs1
        have HXk := hid hx
        have s0 : (0 : Int) ≤ (k : Int) := by omega
        have s1 : (k : Int) < (n : Int) := by omega
        have s2 : ((k : Int)).toNat = k := by simp
        clear hx
        by_cases e1 : ac = xa
        · subst e1
          by_cases e2 : wd = xw
          · subst e2
            by_cases e3 : md = xm
            · subst e3
              by_cases e4 : ln = xl
              · subst e4
                have hkd := hid (show x = ([] : List Rul) ++ (l.take (k + 1)).filter (notR X) by rw [filtR_drop HXk.out (by rw [← hX]; unfold notR; simp), HE.out])
                clear HXk
                go_wp2_with fail
                go_quiet (fail)
                go_wp2_with fail
                go_roundw
                case rel => exact ⟨k + 1, x, by go_num, by omega, hkd.out, by omega, own_below HOx.out (below_dr (Below.refl _ wr) _), below_dr HBx.out _⟩
                case measure => simp [intOf]; omega
              · have f4 : (ln == xl) = false := by simpa using e4
                have hkp := hid (show x ++ [(⟨ac, wd.data.toList, md.data.toList, ln⟩ : Rul)] = ([] : List Rul) ++ (l.take (k + 1)).filter (notR X) by rw [filtR_keep HXk.out (by rw [← hX]; exact notR_of (fun h => e4 h.2.2.2)), HE.out, List.append_assoc])
                clear HXk e4
                go_wp2_with fail
                go_quiet (fail)
                go_wp2_with (at_builtin; refine appRule _ rfl (.tmp 31) (.tmp 36) rfl w1.heap.size _ x (by rfl) (own_below HOx.out (below_dr (Below.refl _ wr) _)) ac wd md ln _ _ _ (by rfl) (by simp) (by omega) (below_dr HBx.out _).size ?_)
                intro v4 w4 ho hb
                have HO4 := hid (own_snoc ho)
                have HB4 := hid ((below_dr HBx.out _).trans hb)
                clear ho hb
                go_wp2_with fail
                go_roundw
                case rel => exact ⟨k + 1, _, by go_num, by omega, hkp.out, by rw [List.length_append]; show x.length + 1 ≤ _; omega, HO4.out, HB4.out⟩
                case measure => simp [intOf]; omega
            · have f3 := eq_false_of (fun h => e3 ((bytes_eq_iff _ _).1 h))
              have hkp := hid (show x ++ [(⟨ac, wd.data.toList, md.data.toList, ln⟩ : Rul)] = ([] : List Rul) ++ (l.take (k + 1)).filter (notR X) by rw [filtR_keep HXk.out (by rw [← hX]; exact notR_of (fun h => e3 h.2.2.1)), HE.out, List.append_assoc])
              clear HXk e3
              go_wp2_with fail
              go_quiet (fail)
              go_wp2_with (at_builtin; refine appRule _ rfl (.tmp 31) (.tmp 36) rfl w1.heap.size _ x (by rfl) (own_below HOx.out (below_dr (Below.refl _ wr) _)) ac wd md ln _ _ _ (by rfl) (by simp) (by omega) (below_dr HBx.out _).size ?_)
              intro v4 w4 ho hb
              have HO4 := hid (own_snoc ho)
              have HB4 := hid ((below_dr HBx.out _).trans hb)
              clear ho hb
              go_wp2_with fail
              go_roundw
              case rel => exact ⟨k + 1, _, by go_num, by omega, hkp.out, by rw [List.length_append]; show x.length + 1 ≤ _; omega, HO4.out, HB4.out⟩
              case measure => simp [intOf]; omega
          · have f2 := eq_false_of (fun h => e2 ((bytes_eq_iff _ _).1 h))
            have hkp := hid (show x ++ [(⟨ac, wd.data.toList, md.data.toList, ln⟩ : Rul)] = ([] : List Rul) ++ (l.take (k + 1)).filter (notR X) by rw [filtR_keep HXk.out (by rw [← hX]; exact notR_of (fun h => e2 h.2.1)), HE.out, List.append_assoc])
            clear HXk e2
            go_wp2_with fail
            go_quiet (fail)
            go_wp2_with (at_builtin; refine appRule _ rfl (.tmp 31) (.tmp 36) rfl w1.heap.size _ x (by rfl) (own_below HOx.out (below_dr (Below.refl _ wr) _)) ac wd md ln _ _ _ (by rfl) (by simp) (by omega) (below_dr HBx.out _).size ?_)
            intro v4 w4 ho hb
            have HO4 := hid (own_snoc ho)
            have HB4 := hid ((below_dr HBx.out _).trans hb)
            clear ho hb
            go_wp2_with fail
            go_roundw
            case rel => exact ⟨k + 1, _, by go_num, by omega, hkp.out, by rw [List.length_append]; show x.length + 1 ≤ _; omega, HO4.out, HB4.out⟩
            case measure => simp [intOf]; omega
        · have f1 : (ac == xa) = false := by simpa using e1
          have hkp := hid (show x ++ [(⟨ac, wd.data.toList, md.data.toList, ln⟩ : Rul)] = ([] : List Rul) ++ (l.take (k + 1)).filter (notR X) by rw [filtR_keep HXk.out (by rw [← hX]; exact notR_of (fun h => e1 h.1)), HE.out, List.append_assoc])
          clear HXk e1
          go_wp2_with fail
          go_quiet (fail)
          go_wp2_with (at_builtin; refine appRule _ rfl (.tmp 31) (.tmp 36) rfl w1.heap.size _ x (by rfl) (own_below HOx.out (below_dr (Below.refl _ wr) _)) ac wd md ln _ _ _ (by rfl) (by simp) (by omega) (below_dr HBx.out _).size ?_)
          intro v4 w4 ho hb
          have HO4 := hid (own_snoc ho)
          have HB4 := hid ((below_dr HBx.out _).trans hb)
          clear ho hb
          go_wp2_with fail
          go_roundw
          case rel => exact ⟨k + 1, _, by go_num, by omega, hkp.out, by rw [List.length_append]; show x.length + 1 ≤ _; omega, HO4.out, HB4.out⟩
          case measure => simp [intOf]; omega
      · have HL := hid (show x = ([] : List Rul) ++ l.filter (notR X) by rw [HE.out, List.take_of_length_le (by have := HV1.out.2.1; omega)])
        have hxn : x.length ≤ 7 := by omega
        obtain ⟨y0, y1, y2, y3⟩ := HK1.out.below HBx.out hs1
        have HBw := hid (HB1.out.trans (HBx.out.mono HB1.out.size))
        clear HE
        go_wp2_with (at_builtin; refine appRule _ rfl (.tmp 40) (.tmp 42) rfl w.heap.size _ x (by rfl) (own_base HOx.out (Nat.le_of_lt hs1)) xa xw xm xl _ _ _ (by rfl) (by simp) (by omega) HBw.out.size ?_)
        intro v4 w4 ho hb
        have HB4 := hid (HBw.out.trans hb)
        have hxe : x ++ [X] = addR l X false := by rw [HL.out]; rfl
        have HO4 := hid (show w4.ownsRow w.heap.size 31 4 v4 (addR l X false).length ((addR l X false).flatMap rucells) by
          have h9 := own_snoc ho
          first | rw [hX, hxe] at h9 | rw [hxe] at h9
          exact h9)
        obtain ⟨A4, c4, rfl, _, _⟩ := (Sl.of_own HO4.out).form
        clear ho hb hxe HL
        have CW := hid (CV.out _ _ _ w4 (HFIN.out w4 _ HO4.out))
        cases hz : rulsOk (addR l X false) with
        | false =>
          rw [hz] at CW
          have HD := hid (show addROk l X false = false by unfold addROk; rw [hz, Bool.and_false])
          clear hz
          go_wp2_with fail
          refine CW.out.mono ?_
          rintro e w5 ⟨rfl, hb⟩
          have HB5 := hid (HB4.out.trans (hb.mono HB4.out.size))
          clear hb
          go_wp2_with fail
          refine bodyPost_ret (v := .tuple #[.slice none 0 0, .bool false]) (by simp [results, Try.results7, go_sem]) rfl ?_
          exact add_none HD.out HB5.out
        | true =>
          rw [hz] at CW
          have HD := hid (show addROk l X false = true by unfold addROk; rw [hz, HR.out]; rfl)
          clear hz
          go_wp2_with fail
          refine CW.out.mono ?_
          rintro e w5 ⟨rfl, hb⟩
          have HB5 := hid (HB4.out.trans (hb.mono HB4.out.size))
          have HO5 := hid (own_below HO4.out hb)
          clear hb
          go_wp2_with fail
          refine bodyPost_ret (by simp [results, Try.results7, go_sem]; rfl) rfl ?_
          exact add_some HD.out HO5.out HB5.out
theorem rules_post {w w2 : World} {e : Ending} {ok : Bool} {X : List Rul} (h : AddPost w ok X e w2) : ∃ (u0 : Value) (rs0 : List Row), e = .returned (.tuple #[u0, .bool (ok)]) ∧ RulesR rs0 u0 (X) ∧ Rows w2 w.heap.size (rs0) ∧ Below w.heap.size w w2 := by
  obtain ⟨v', rfl, ho, hb⟩ := h
  obtain ⟨rs, hr, hR⟩ := RulesR.of_own ho
  exact ⟨v', rs, rfl, hr, hR, hb⟩
end Go.Proofs.Ythggedmgjehfiaa
