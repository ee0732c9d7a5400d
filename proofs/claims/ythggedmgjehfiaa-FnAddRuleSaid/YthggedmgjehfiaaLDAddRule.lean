/-
  WALK: the law FnAddRule. By gen_addr.py.
-/
import Derived.Test.YthggedmgjehfiaaE35
namespace Go.Proofs.Ythggedmgjehfiaa
open Go.RowKit Nm
set_option linter.unusedSimpArgs false
set_option linter.unusedVariables false

set_option maxHeartbeats 8000000 in
set_option maxRecDepth 100000 in
theorem walk_FnAddRule (a0 : Option Addr) (len0 cap0 : Nat) (z0 : List Int) (w : World) (w0 : IsRow .u8 w a0 len0 cap0 z0) :
    Calls Try.prog 4 #[.slice a0 len0 cap0] w (BoolPost w true) := by
  have hb0 := w0.leA
  by_cases h1 : (1048576 : Int) < (len0 : Int)
  · go_enter Try.func4, Try.ntmps4
    go_wp2_with fail
    go_ret
    exact ⟨rfl, Below.refl _ _⟩
  have DR := hid (drawAddRule_c a0 len0 cap0 z0 w w0)
  clear w0
  go_enter Try.func4, Try.ntmps4
  go_wp2_with fail
  refine DR.out.mono ?_
  rintro e w1 ⟨A, n, c, l, xa, xl, xw, xm, fr, rfl, hln, hn6, hrf, hof, hnt, hb⟩
  have K1 := hid (Blk.new w1 #[.int .i64 0, .string ByteArray.empty, .string ByteArray.empty, .int .i64 0] 31)
  have HBa := hid (hb.alloc hb.size (.cells #[.int .i64 0, .string ByteArray.empty, .string ByteArray.empty, .int .i64 0] 31))
  have HOa := hid (hof.alloc (.cells #[.int .i64 0, .string ByteArray.empty, .string ByteArray.empty, .int .i64 0] 31))
  have hne7 : (Value.slice A n c).ownBlock ≠ some w1.heap.size := fun e2 => by have := (hof.lt _ e2).2; omega
  have hsb : w.heap.size ≤ w1.heap.size := hb.size
  clear DR hb hof
  go_wp2_with (refine wpList_stB (P := Try.prog) rfl 31 _ _ rfl w1.heap.size [.int .i64 xa, .string xw, .string xm, .int .i64 xl] rfl rfl _ K1.out rfl (by kernel_rfl) (List.all_eq_true.1 rfl) ?_)
  intro w2 hk2 hg2 hs2
  have KX2 := hid hk2
  have HO2 := HOa.out.kept hg2 (.inr hne7)
  have HB2 := hid (HBa.out.grown hg2 HBa.out.size (by intro z hz; cases hz; omega))
  have F1 := hid (show Ruls w2 w2.heap.size n (.slice A n c) l from ⟨Sl.of_own HO2, fun f hf => by have := hrf f hf; unfold rucellsFit maxTxt; omega⟩)
  obtain ⟨A', c', he', _, hcm⟩ := (Sl.of_own HO2).form
  injection he' with e1 e2 e3
  subst e1 e3
  clear e2 hk2 hg2 hs2 HO2 K1 HBa HOa hne7
  unfold maxLen at hcm
  generalize hb1 : w1.heap.size = b1 at *
  have hxs1 : xw.size ≤ maxTxt := by unfold maxTxt; omega
  have hxs2 : xm.size ≤ maxTxt := by unfold maxTxt; omega
  have CI := hid (fun (W : World) (hW : Below w2.heap.size w2 W) => implAddRule_c (.slice A n c) n w2.heap.size l xa xl xw xm fr W (F1.out.below hW (Nat.le_refl _)) hW.size hxs1 hxs2)
  have CS := hid (fun (W : World) (hW : Below w2.heap.size w2 W) => specAddRule_c (.slice A n c) n w2.heap.size l xa xl xw xm fr W (F1.out.below hW (Nat.le_refl _)) hW.size hxs1 hxs2)
  have CA := hid (fun (W : World) (v : Value) (m : Nat) (d : List Rul) (h : Ruls W W.heap.size m v d) => implAddRule_c v m W.heap.size d xa xl xw xm fr W h (Nat.le_refl _) hxs1 hxs2)
  have HM := hid (And.intro (@addROk_again l ⟨xa, xw.data.toList, xm.data.toList, xl⟩ fr) (And.intro (@addR_le l ⟨xa, xw.data.toList, xm.data.toList, xl⟩ fr) (@addRX_fit l ⟨xa, xw.data.toList, xm.data.toList, xl⟩ fr F1.out.2 ⟨by rw [← Lib.size_eq]; exact hxs1, by rw [← Lib.size_eq]; exact hxs2⟩)))
  generalize hX : (⟨xa, xw.data.toList, xm.data.toList, xl⟩ : Rul) = X at CI CS CA HM
  replace hX := hid hX
  have HXX := hX
  generalize hok : addROk l X fr = ok at CI CS HM
  generalize hd : addRX l X fr = d at CI CS HM
  have HD3 := hid (show ok = true → addROk d X fr = true ∧ addRX d X fr = d ∧ d = addR l X fr from HM.out.1)
  have hd6 : d.length ≤ 6 := HM.out.2.1
  have HFd := hid HM.out.2.2.2
  generalize hm : d.length = m at CI CS hd6
  clear hok hd HM
  replace hm := hid hm
  replace hln := hid hln
  have HW2 := hid (Below.refl w2.heap.size w2)
  have hbx : b1 < w2.heap.size := KX2.out.1
  obtain ⟨x0, x1, x2, x3⟩ : RuleAt w2 b1 xa xw xm xl := ⟨(KX2.out.2 0 _ rfl).1, (KX2.out.2 1 _ rfl).1, (KX2.out.2 2 _ rfl).1, (KX2.out.2 3 _ rfl).1⟩
  have HX2 := hid (show RuleAt w2 b1 xa xw xm xl from ⟨x0, x1, x2, x3⟩)
  clear KX2 hnt hrf
  go_wp2_with fail
  refine (CI.out _ HW2.out).mono ?_
  rintro e w3 ⟨v2, rfl, ho2, hb⟩
  rw [hm.out] at ho2
  obtain ⟨A2, c2, rfl, hmc2, hcm2⟩ := (Sl.of_own ho2).form
  unfold maxLen at hcm2
  have HW3 := hid hb
  have O2 := hid (Sl.of_own ho2)
  clear x0 x1 x2 x3
  obtain ⟨x0, x1, x2, x3⟩ := HX2.out.below hb hbx
  clear hb ho2
  go_wp2_with fail
  refine (CS.out _ HW3.out).mono ?_
  rintro e w4 ⟨v3, rfl, ho3, hb⟩
  rw [hm.out] at ho3
  obtain ⟨A3, c3, rfl, _, hcm3⟩ := (Sl.of_own ho3).form
  unfold maxLen at hcm3
  have HW4 := hid (HW3.out.trans (hb.mono HW3.out.size))
  have HX4 := hid (Below.trans (Below.refl w3.heap.size w3) hb)
  have CE := hid (fun (W : World) (hW : Below w4.heap.size w4 W) => equalRules_c (.slice A2 m c2) (.slice A3 m c3) m w4.heap.size d W ((O2.out.below (HX4.out.trans (hW.mono HX4.out.size)) (Nat.le_refl _)).more HX4.out.size) ((Sl.of_own ho3).below hW (Nat.le_refl _)) hW.size)
  have HY4 := hid (Below.refl w4.heap.size w4)
  clear hb ho3 x0 x1 x2 x3
  cases ok with
  | false =>
    go_wp2_with fail
    refine (CE.out _ HY4.out).mono ?_
    rintro e w5 ⟨rfl, hb⟩
    have HY5 := hid hb
    clear hb
    go_wp2_with fail
    refine (CE.out _ HY5.out).mono ?_
    rintro e w6 ⟨rfl, hb⟩
    have HW6 := hid (HW4.out.trans ((HY5.out.trans (hb.mono HY5.out.size)).mono HW4.out.size))
    clear hb
    go_wp2_with fail
    go_ret
    exact ⟨rfl, HB2.out.trans (HW6.out.mono HB2.out.size)⟩
  | true =>
  obtain ⟨hr1, hr2, hr3⟩ := HD3.out rfl
  replace hr1 := hid hr1
  replace hr2 := hid hr2
  replace hr3 := hid hr3
  clear HD3
  go_wp2_with fail
  refine (CE.out _ HY4.out).mono ?_
  rintro e w5 ⟨rfl, hb⟩
  have HW5 := hid (HW4.out.trans (hb.mono HW4.out.size))
  have HX5 := hid (HX4.out.trans (hb.mono HX4.out.size))
  have O5 := hid ((O2.out.below HX5.out (Nat.le_refl _)).more HX5.out.size)
  have HXr5 := hid (HX2.out.below HW5.out hbx)
  have hbx5 : b1 < w5.heap.size := Nat.lt_of_lt_of_le hbx HW5.out.size
  have F5 := hid ((F1.out.below HW5.out (Nat.le_refl _)).more HW5.out.size)
  have HB5 := hid (HB2.out.trans (HW5.out.mono HB2.out.size))
  have HOn := hid (World.ownsRow_lit (base := w5.heap.size) w5 #[] 0 (Nat.le_refl _) (by unfold maxLen; omega) rfl : (w5.alloc (.cells #[] 31)).ownsRow w5.heap.size 31 4 (.slice (some ⟨w5.heap.size, 0, none⟩) 0 0) 0 [])
  have HBn := hid (show Below w5.heap.size w5 (w5.alloc (.cells #[] 31)) from (Below.refl _ _).alloc (Nat.le_refl _) _)
  clear hb CE CI CS HY4 HX4 HW2 HW3 HW4 HW5 HX5 O2 HX2 F1 HB2
  go_wp2_with fail
  go_loopw [10, 11] (fun v iv wr => ∃ (k : Nat) (x : List Rul), iv = .int .i64 k ∧ k ≤ n ∧ Hid (x = (l.take k).filter (notR X)) ∧ x.length ≤ k ∧ Hid (wr.ownsRow w5.heap.size 31 4 v x.length (x.flatMap rucells)) ∧ Hid (Below w5.heap.size w5 wr)) (fun _ iv _ => n - (intOf iv).toNat)
  case atStart => exact ⟨0, [], rfl, by omega, rfl, by simp, HOn.out, HBn.out⟩
  case round =>
    obtain ⟨k, x, rfl, hk, HE, hxl, HOx, HBx⟩ := hrel
    obtain ⟨Ax, cx, rfl, _, _⟩ := (Sl.of_own HOx.out).form
    by_cases hlt : k < n
    · obtain ⟨b, o, ac, wd, md, ln, rfl, hbB, hx, c0, c1, c2, c3⟩ := rucells_at (F5.out.1.below HBx.out (Nat.le_refl _)) hlt
      obtain ⟨y0, y1, y2, y3⟩ := HXr5.out.below HBx.out hbx5
      have HXk := hid hx
      have s0 : (0 : Int) ≤ (k : Int) := by omega
      have s1 : (k : Int) < (n : Int) := by omega
      have s2 : ((k : Int)).toNat = k := by simp
      clear hx
      by_cases e1 : ac = xa
      · subst e1
        by_cases e2 : wd = xw
        · subst e2
          by_cases e3 : md = xm
          · subst e3
            by_cases e4 : ln = xl
            · subst e4
              have hkd := hid (show x = (l.take (k + 1)).filter (notR X) by rw [filtR_drop HXk.out (by rw [← HXX.out]; unfold notR; simp), HE.out])
              clear HXk
              go_wp2_with fail
              go_quiet (fail)
              go_wp2_with fail
              go_roundw
              case rel => exact ⟨k + 1, x, by go_num, by omega, hkd.out, by omega, own_below HOx.out (below_dr (Below.refl _ wr) _), below_dr HBx.out _⟩
              case measure => simp [intOf]; omega
            · have f4 : (ln == xl) = false := by simpa using e4
              have hkp := hid (show x ++ [(⟨ac, wd.data.toList, md.data.toList, ln⟩ : Rul)] = (l.take (k + 1)).filter (notR X) by rw [filtR_keep HXk.out (by rw [← HXX.out]; exact notR_of (fun h => e4 h.2.2.2)), HE.out])
              clear HXk e4
              go_wp2_with fail
              go_quiet (fail)
              go_wp2_with (at_builtin; refine appRule _ rfl (.tmp 72) (.tmp 77) rfl w5.heap.size _ x (by rfl) (own_below HOx.out (below_dr (Below.refl _ wr) _)) ac wd md ln _ _ _ (by rfl) (by simp) (by omega) (below_dr HBx.out _).size ?_)
              intro v7 w7 ho hb
              have HO7 := hid (own_snoc ho)
              have HB7 := hid ((below_dr HBx.out _).trans hb)
              clear ho hb
              go_wp2_with fail
              go_roundw
              case rel => exact ⟨k + 1, _, by go_num, by omega, hkp.out, by rw [List.length_append]; show x.length + 1 ≤ _; omega, HO7.out, HB7.out⟩
              case measure => simp [intOf]; omega
          · have f3 := eq_false_of (fun h => e3 ((bytes_eq_iff _ _).1 h))
            have hkp := hid (show x ++ [(⟨ac, wd.data.toList, md.data.toList, ln⟩ : Rul)] = (l.take (k + 1)).filter (notR X) by rw [filtR_keep HXk.out (by rw [← HXX.out]; exact notR_of (fun h => e3 h.2.2.1)), HE.out])
            clear HXk e3
            go_wp2_with fail
            go_quiet (fail)
            go_wp2_with (at_builtin; refine appRule _ rfl (.tmp 72) (.tmp 77) rfl w5.heap.size _ x (by rfl) (own_below HOx.out (below_dr (Below.refl _ wr) _)) ac wd md ln _ _ _ (by rfl) (by simp) (by omega) (below_dr HBx.out _).size ?_)
            intro v7 w7 ho hb
            have HO7 := hid (own_snoc ho)
            have HB7 := hid ((below_dr HBx.out _).trans hb)
            clear ho hb
            go_wp2_with fail
            go_roundw
            case rel => exact ⟨k + 1, _, by go_num, by omega, hkp.out, by rw [List.length_append]; show x.length + 1 ≤ _; omega, HO7.out, HB7.out⟩
            case measure => simp [intOf]; omega
        · have f2 := eq_false_of (fun h => e2 ((bytes_eq_iff _ _).1 h))
          have hkp := hid (show x ++ [(⟨ac, wd.data.toList, md.data.toList, ln⟩ : Rul)] = (l.take (k + 1)).filter (notR X) by rw [filtR_keep HXk.out (by rw [← HXX.out]; exact notR_of (fun h => e2 h.2.1)), HE.out])
          clear HXk e2
          go_wp2_with fail
          go_quiet (fail)
          go_wp2_with (at_builtin; refine appRule _ rfl (.tmp 72) (.tmp 77) rfl w5.heap.size _ x (by rfl) (own_below HOx.out (below_dr (Below.refl _ wr) _)) ac wd md ln _ _ _ (by rfl) (by simp) (by omega) (below_dr HBx.out _).size ?_)
          intro v7 w7 ho hb
          have HO7 := hid (own_snoc ho)
          have HB7 := hid ((below_dr HBx.out _).trans hb)
          clear ho hb
          go_wp2_with fail
          go_roundw
          case rel => exact ⟨k + 1, _, by go_num, by omega, hkp.out, by rw [List.length_append]; show x.length + 1 ≤ _; omega, HO7.out, HB7.out⟩
          case measure => simp [intOf]; omega
      · have f1 : (ac == xa) = false := by simpa using e1
        have hkp := hid (show x ++ [(⟨ac, wd.data.toList, md.data.toList, ln⟩ : Rul)] = (l.take (k + 1)).filter (notR X) by rw [filtR_keep HXk.out (by rw [← HXX.out]; exact notR_of (fun h => e1 h.1)), HE.out])
        clear HXk e1
        go_wp2_with fail
        go_quiet (fail)
        go_wp2_with (at_builtin; refine appRule _ rfl (.tmp 72) (.tmp 77) rfl w5.heap.size _ x (by rfl) (own_below HOx.out (below_dr (Below.refl _ wr) _)) ac wd md ln _ _ _ (by rfl) (by simp) (by omega) (below_dr HBx.out _).size ?_)
        intro v7 w7 ho hb
        have HO7 := hid (own_snoc ho)
        have HB7 := hid ((below_dr HBx.out _).trans hb)
        clear ho hb
        go_wp2_with fail
        go_roundw
        case rel => exact ⟨k + 1, _, by go_num, by omega, hkp.out, by rw [List.length_append]; show x.length + 1 ≤ _; omega, HO7.out, HB7.out⟩
        case measure => simp [intOf]; omega
    · have HF := hid (show x = l.filter (notR X) by rw [HE.out, List.take_of_length_le (by rw [hln.out]; omega)])
      have hO2w := (O5.out.below HBx.out (Nat.le_refl _)).more HBx.out.size
      have CAw := hid (CA.out wr _ m d ⟨hO2w, HFd.out⟩)
      rw [hr1.out, hr2.out] at CAw
      obtain ⟨y0, y1, y2, y3⟩ := HXr5.out.below HBx.out hbx5
      have HXw := hid (show RuleAt wr b1 xa xw xm xl from ⟨y0, y1, y2, y3⟩)
      have hbxw : b1 < wr.heap.size := Nat.lt_of_lt_of_le hbx5 HBx.out.size
      have HBw := hid (HB5.out.trans (HBx.out.mono HB5.out.size))
      have HO2w := hid hO2w
      clear hO2w HE HOn HBn O5 HXr5 HB5 F5 CA
      cases fr with
      | true =>
        have hdd : d = X :: x := by rw [hr3.out, HF.out]; rfl
        have hml := hid (show m = x.length + 1 by rw [← hm.out, hdd]; rfl)
        have HDD := hid hdd
        clear hdd
        go_wp2_with fail
        refine CAw.out.mono ?_
        rintro e w6 ⟨v6, rfl, ho6, hb⟩
        rw [hm.out] at ho6
        obtain ⟨A6, c6, rfl, _, _⟩ := (Sl.of_own ho6).form
        have HB6 := hid (HBw.out.trans (hb.mono HBw.out.size))
        obtain ⟨x0, x1, x2, x3⟩ := HXw.out.below hb hbxw
        have S6 := hid (fun q => (Sl.of_own ho6).below (below_dr (Below.refl w6.heap.size w6) q) (Nat.le_refl _))
        have S2 := hid ((HO2w.out.below hb (Nat.le_refl _)).more hb.size)
        have SX := hid ((Sl.of_own HOx.out).below hb (Nat.le_refl _) |>.more hb.size)
        obtain ⟨b, o, ac, wd, md, ln, rfl, hbB, hx, c0, c1, c2', c3'⟩ := rucells_at S2.out (k := 0) (by have := hml.out; omega)
        have hxe : (⟨ac, wd.data.toList, md.data.toList, ln⟩ : Rul) = ⟨xa, xw.data.toList, xm.data.toList, xl⟩ := by
          rw [HDD.out] at hx
          rw [hX.out]
          exact (Option.some.inj hx).symm
        simp only [Rul.mk.injEq, bytes_eq_iff] at hxe
        obtain ⟨rfl, rfl, rfl, rfl⟩ := hxe
        simp only [Nat.zero_mul, Nat.add_zero] at c0 c1 c2' c3'
        have E1 := hid (fun q => equalRulesQ_c (.slice A6 m c6) (.slice (some ⟨b, o, none⟩) m c2) m w6.heap.size d (w6.drewN q) (S6.out q) (S2.out.below (below_dr (Below.refl _ _) q) (Nat.le_refl _)))
        have hm1 : (1 : Int) ≤ (m : Int) := by have := hml.out; omega
        have hm0 : (0 : Int) < (m : Int) := by have := hml.out; omega
        clear hx ho6 hb S6 CAw HXw
        by_cases hc1 : c2 = 1
        · subst hc1
          obtain rfl : m = 1 := by have := hml.out; omega
          have E2 := hid (fun q => equalRulesQ_c (.slice (some ⟨b, o, none⟩) 0 0) (.slice Ax x.length cx) x.length w6.heap.size x (w6.drewN q) (by
            obtain rfl : x = [] := List.length_eq_zero_iff.1 (by have := hml.out; omega)
            exact ⟨rfl, _, _, rfl, Nat.le_refl _, by unfold maxLen; omega, fun h => absurd h (by simp)⟩) (SX.out.below (below_dr (Below.refl _ _) q) (Nat.le_refl _)))
          go_wp2_with fail
          go_quiet (first | (go_at_call_of 15 (Value.slice A6 1 c6); exact Calls.quiet_of (E1.out _)) | exact Calls.quiet_of (E2.out _))
          go_wp2_with fail
          go_ret
          exact ⟨rfl, below_dr HB6.out _⟩
        · have E2 := hid (fun q => equalRulesQ_c (.slice (some ⟨b, o + 4, none⟩) (m - 1) (c2 - 1)) (.slice Ax x.length cx) x.length w6.heap.size x (w6.drewN q) (by
            have h9 := (S2.out.below (below_dr (Below.refl _ _) q) (Nat.le_refl _)).from_ (k := 1) (by have := hml.out; omega)
            rw [HDD.out] at h9
            rw [hml.out] at h9 ⊢
            simpa [rucells] using h9) (SX.out.below (below_dr (Below.refl _ _) q) (Nat.le_refl _)))
          go_wp2_with fail
          go_quiet (first | (go_at_call_of 15 (Value.slice A6 m c6); exact Calls.quiet_of (E1.out _)) | exact Calls.quiet_of (E2.out _))
          go_wp2_with fail
          go_ret
          exact ⟨rfl, below_dr HB6.out _⟩
      | false =>
        have hdd : d = x ++ [X] := by rw [hr3.out, HF.out]; rfl
        have hml := hid (show m = x.length + 1 by rw [← hm.out, hdd]; simp)
        have HDD := hid hdd
        clear hdd
        go_wp2_with fail
        refine CAw.out.mono ?_
        rintro e w6 ⟨v6, rfl, ho6, hb⟩
        rw [hm.out] at ho6
        obtain ⟨A6, c6, rfl, _, _⟩ := (Sl.of_own ho6).form
        have HB6 := hid (HBw.out.trans (hb.mono HBw.out.size))
        obtain ⟨x0, x1, x2, x3⟩ := HXw.out.below hb hbxw
        have S6 := hid (fun q => (Sl.of_own ho6).below (below_dr (Below.refl w6.heap.size w6) q) (Nat.le_refl _))
        have S2 := hid ((HO2w.out.below hb (Nat.le_refl _)).more hb.size)
        have SX := hid ((Sl.of_own HOx.out).below hb (Nat.le_refl _) |>.more hb.size)
        obtain ⟨b, o, ac, wd, md, ln, rfl, hbB, hx, c0, c1, c2', c3'⟩ := rucells_at S2.out (k := x.length) (by have := hml.out; omega)
        have hxe : (⟨ac, wd.data.toList, md.data.toList, ln⟩ : Rul) = ⟨xa, xw.data.toList, xm.data.toList, xl⟩ := by
          rw [HDD.out, List.getElem?_append_right (Nat.le_refl _)] at hx
          rw [hX.out]
          simpa using hx.symm
        simp only [Rul.mk.injEq, bytes_eq_iff] at hxe
        obtain ⟨rfl, rfl, rfl, rfl⟩ := hxe
        have E1 := hid (fun q => equalRulesQ_c (.slice A6 m c6) (.slice (some ⟨b, o, none⟩) m c2) m w6.heap.size d (w6.drewN q) (S6.out q) (S2.out.below (below_dr (Below.refl _ _) q) (Nat.le_refl _)))
        have E2 := hid (fun q => equalRulesQ_c (.slice (some ⟨b, o, none⟩) x.length c2) (.slice Ax x.length cx) x.length w6.heap.size x (w6.drewN q) (by
          have h9 := (S2.out.below (below_dr (Below.refl _ _) q) (Nat.le_refl _)).cutK (k := x.length) (by have := hml.out; omega)
          rw [HDD.out, flat_takeK rucells 4 rucells_len, List.take_left] at h9
          exact h9) (SX.out.below (below_dr (Below.refl _ _) q) (Nat.le_refl _)))
        have t1 : IntKind.i64.wrap ((m : Int) - 1) = (x.length : Int) := by rw [IntKind.wrap_i64]; have := hml.out; omega
        have t2 : (0 : Int) ≤ (x.length : Int) := by omega
        have t3 : (x.length : Int) < (m : Int) := by have := hml.out; omega
        have t4 : ((x.length : Int)).toNat = x.length := by simp
        have t5 : (x.length : Int) ≤ (c2 : Int) := by have := hml.out; omega
        generalize hxn : x.length = xn at *
        clear hx ho6 hb S6 CAw HXw
        go_wp2_with fail
        go_quiet (first | (go_at_call_of 15 (Value.slice A6 m c6); exact Calls.quiet_of (E1.out _)) | exact Calls.quiet_of (E2.out _))
        go_wp2_with fail
        go_ret
        exact ⟨rfl, below_dr HB6.out _⟩
end Go.Proofs.Ythggedmgjehfiaa
