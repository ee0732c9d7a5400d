/-
  WALK: the law FnSpotsOf. By gen_t.py.
-/
import Derived.Test.YtpfnjkmkenaipaaE21
import Derived.Test.YtpfnjkmkenaipaaE19
import Derived.Test.YtpfnjkmkenaipaaE13
import Derived.Test.YtpfnjkmkenaipaaLookS
import Derived.Deep.DeepCutAuto
namespace Go.Proofs.Ytpfnjkmkenaipaa
open Go.RowKit Nm
set_option linter.unusedSimpArgs false
set_option linter.unusedVariables false

set_option maxHeartbeats 8000000 in
set_option maxRecDepth 100000 in
theorem walk_FnSpotsOf (a0 : Option Addr) (len0 cap0 : Nat) (z0 : List Int) (w : World) (w0 : IsRow .u8 w a0 len0 cap0 z0) :
    Calls Try.prog 6 #[.slice a0 len0 cap0] w (BoolPost w true) := by
  have hb0 := w0.leT
  by_cases h1 : (1048576 : Int) < (len0 : Int)
  · go_enter Try.func6, Try.ntmps6
    go_wp2_with fail
    go_ret
    exact ⟨rfl, Below.refl _ _⟩
  have DR := hid (drawSpotsOf_c a0 len0 cap0 z0 w w0)
  clear w0
  go_enter Try.func6, Try.ntmps6
  go_wp2_with fail
  refine DR.out.mono ?_
  rintro e w1 ⟨v, rs, L, H, q, nm, rfl, hs, hsm, hnm, hr, hb⟩
  obtain ⟨A1, n1, k1, A2, n2, k2, rfl, hn1, hn2⟩ := hs.form_ hr
  have hd := sm_fit hsm (by omega)
  have TI0 := hs.at_ hr hd
  have hbx : Below w1.heap.size w1 (w1.alloc (.cells #[.slice A1 n1 k1, .slice A2 n2 k2, .int .i64 q] 32)) := (Below.refl _ _).alloc (Nat.le_refl _) _
  have TI := hid (TI0.below hbx (Nat.le_refl _))
  have KB := hid (Blk.new w1 #[.slice A1 n1 k1, .slice A2 n2 k2, .int .i64 q] 32)
  have HB := hid (hb.trans (hbx.mono hb.size))
  have hl1 : w1.heap.size < (w1.alloc (.cells #[.slice A1 n1 k1, .slice A2 n2 k2, .int .i64 q] 32)).heap.size := by simp
  have HL := hid (And.intro hn1 (And.intro hsm.1 hsm.2.1.1))
  replace hd := hid hd
  clear hs hr hb hn1 hn2 hsm TI0 hbx DR
  go_wp2_with fail
  generalize hbb : w1.heap.size = bb at *
  generalize w1.alloc (.cells #[.slice A1 n1 k1, .slice A2 n2 k2, .int .i64 q] 32) = w2 at *
  clear hbb
  have d0 := (KB.out.2 0 _ rfl).1
  have d1 := (KB.out.2 1 _ rfl).1
  have d2 := (KB.out.2 2 _ rfl).1
  have HW := hid (Below.refl w2.heap.size w2)
  have TT := hid (fun (W : World) (hW : Below w2.heap.size w2 W) => (And.intro (TI.out.below hW (Nat.le_of_lt hl1)) (Nat.le_trans (Nat.le_of_lt hl1) hW.size)))
  have CI := hid (fun (W : World) (hW : Below w2.heap.size w2 W) => implSpotsOf_c nm (TT.out W hW).1 (TT.out W hW).2 (by unfold maxLen; omega))
  have CS := hid (fun (W : World) (hW : Below w2.heap.size w2 W) => specSpotsOf_c nm (TT.out W hW).1 (TT.out W hW).2 (by unfold maxTxt; omega))
  have CT := hid (fun (W : World) (hW : Below w2.heap.size w2 W) => implValidTreeX_c (TT.out W hW).1 (TT.out W hW).2)
  have CN := hid (fun (W : World) (hW : Below w2.heap.size w2 W) => implValidName_c nm W (by unfold maxLen; omega))
  have CP := hid (fun (W : World) (hW : Below w2.heap.size w2 W) => implPathOf_c nm (TT.out W hW).1 (TT.out W hW).2 (by unfold maxLen; omega))
  have CL := hid (fun (h : treeOk L H q = true) (i : Nat) (hi : i < L.length) (s : ByteArray) (hs : s.data.toList = (nsOf L).getD i []) (W : World) (hW : Below w2.heap.size w2 W) => (show Calls Try.prog 21 #[.agg #[.slice A1 n1 k1, .slice A2 n2 k2, .int .i64 q], .string s] W (fun e w' => e = .returned (.int .i64 (i : Int)) ∧ Below W.heap.size W w') from by
    have h9 := implLoggerAtX_c s (TT.out W hW).1 (TT.out W hW).2
    have h8 : idxL (namesOf L) (L[i].nm) = (i : Int) := tree_idx h (List.getElem?_eq_getElem hi)
    rw [h, if_pos rfl, show s.data.toList = L[i].nm by rw [hs]; unfold nsOf; simp [List.getD, hi], h8] at h9; exact h9))
  have FP := hid (fun (h : treeOk L H q = true) (hx : nameOk nm.data.toList = true) => path_facts h hx)
  have hH6 := hid (fun (h : treeOk L H q = true) (i : Nat) => hsAt_len h i)
  have hn8 : n1 ≤ 8 := by rw [HL.out.1]; exact HL.out.2.2
  have hN1 := HL.out.1
  replace hN1 := hid hN1
  have hP30 := spotsT_len L H q nm.data.toList
  have hT5 := pathT_len L H q nm.data.toList
  generalize hpl : pathN (nsOf L) nm.data.toList = pl at *
  generalize hP : spotsT L H q nm.data.toList = P at *
  generalize hPt : pathT L H q nm.data.toList = PT at *
  generalize hok : treeOk L H q = ok at *
  generalize hnok : nameOk nm.data.toList = nok at *
  replace hok := hid hok
  replace hnok := hid hnok
  clear hP hpl hPt
  go_wp2_with fail
  refine (CI.out _ HW.out).mono ?_
  rintro e w3 ⟨v3, rfl, ho3, hb⟩
  obtain ⟨A3, c3, rfl, hc3, hm3⟩ := (Sl.of_own ho3).form
  have HW3 := hid (HW.out.trans (hb.mono HW.out.size))
  generalize hn3 : P.length = n3 at *
  have O3 := hid ho3
  have HV3 := hid (Below.refl w3.heap.size w3)
  replace hn3 := hid hn3
  unfold maxLen at hm3
  clear hb ho3 d0 d1 d2
  obtain ⟨⟨d0, _⟩, ⟨d1, _⟩, ⟨d2, _⟩⟩ := (And.intro ((KB.out.to HW3.out).2 0 _ rfl) (And.intro ((KB.out.to HW3.out).2 1 _ rfl) ((KB.out.to HW3.out).2 2 _ rfl)))
  go_wp2_with fail
  refine (CS.out _ HW3.out).mono ?_
  rintro e w4 ⟨v4, rfl, ho4, hb⟩
  obtain ⟨A4, c4, rfl, hc4, hm4⟩ := (Sl.of_own ho4).form
  try rw [hn3.out] at ho4
  have CQ := hid (equalSpots_c _ _ n3 w4.heap.size P w4 (((Sl.of_own O3.out).below hb (Nat.le_refl _)).more hb.size) (Sl.of_own ho4) (Nat.le_refl _))
  clear ho4
  clear d0 d1 d2
  have HW4 := hid (HW3.out.trans (hb.mono HW3.out.size))
  have HV4 := hid (HV3.out.trans (hb.mono HV3.out.size))
  clear hb
  obtain ⟨⟨d0, _⟩, ⟨d1, _⟩, ⟨d2, _⟩⟩ := (And.intro ((KB.out.to HW4.out).2 0 _ rfl) (And.intro ((KB.out.to HW4.out).2 1 _ rfl) ((KB.out.to HW4.out).2 2 _ rfl)))
  go_wp2_with fail
  refine CQ.out.mono ?_
  rintro e w5 ⟨rfl, hb⟩
  clear d0 d1 d2
  have HW5 := hid (HW4.out.trans (hb.mono HW4.out.size))
  have HV5 := hid (HV4.out.trans (hb.mono HV4.out.size))
  clear hb
  obtain ⟨⟨d0, _⟩, ⟨d1, _⟩, ⟨d2, _⟩⟩ := (And.intro ((KB.out.to HW5.out).2 0 _ rfl) (And.intro ((KB.out.to HW5.out).2 1 _ rfl) ((KB.out.to HW5.out).2 2 _ rfl)))
  go_wp2_with fail
  refine (CT.out _ HW5.out).mono ?_
  rintro e w6 ⟨rfl, hb⟩
  clear d0 d1 d2
  have HW6 := hid (HW5.out.trans (hb.mono HW5.out.size))
  have HV6 := hid (HV5.out.trans (hb.mono HV5.out.size))
  clear hb
  obtain ⟨⟨d0, _⟩, ⟨d1, _⟩, ⟨d2, _⟩⟩ := (And.intro ((KB.out.to HW6.out).2 0 _ rfl) (And.intro ((KB.out.to HW6.out).2 1 _ rfl) ((KB.out.to HW6.out).2 2 _ rfl)))
  cases ok with
  | false =>
    go_wp2_with fail
    refine (CS.out _ HW6.out).mono ?_
    rintro e w7 ⟨v7, rfl, ho7, hb⟩
    obtain ⟨A7, c7, rfl, hc7, hm7⟩ := (Sl.of_own ho7).form
    try rw [hn3.out] at ho7
    have CQ7 := hid (equalSpots_c _ _ n3 w7.heap.size P w7 ((((Sl.of_own O3.out).below HV6.out (Nat.le_refl _)).more HV6.out.size).below hb (Nat.le_refl _) |>.more hb.size) (Sl.of_own ho7) (Nat.le_refl _))
    clear ho7
    clear d0 d1 d2
    have HW7 := hid (HW6.out.trans (hb.mono HW6.out.size))
    have HV7 := hid (HV6.out.trans (hb.mono HV6.out.size))
    clear hb
    obtain ⟨⟨d0, _⟩, ⟨d1, _⟩, ⟨d2, _⟩⟩ := (And.intro ((KB.out.to HW7.out).2 0 _ rfl) (And.intro ((KB.out.to HW7.out).2 1 _ rfl) ((KB.out.to HW7.out).2 2 _ rfl)))
    go_wp2_with fail
    refine CQ7.out.mono ?_
    rintro e w8 ⟨rfl, hb⟩
    clear d0 d1 d2
    have HW8 := hid (HW7.out.trans (hb.mono HW7.out.size))
    have HV8 := hid (HV7.out.trans (hb.mono HV7.out.size))
    clear hb
    obtain ⟨⟨d0, _⟩, ⟨d1, _⟩, ⟨d2, _⟩⟩ := (And.intro ((KB.out.to HW8.out).2 0 _ rfl) (And.intro ((KB.out.to HW8.out).2 1 _ rfl) ((KB.out.to HW8.out).2 2 _ rfl)))
    go_wp2_with fail
    go_ret
    exact ⟨rfl, HB.out.trans (HW8.out.mono HB.out.size)⟩
  | true =>
    clear CQ
    go_wp2_with fail
    refine (CN.out _ HW6.out).mono ?_
    rintro e w7 ⟨rfl, hb⟩
    clear d0 d1 d2
    have HW7 := hid (HW6.out.trans (hb.mono HW6.out.size))
    have HV7 := hid (HV6.out.trans (hb.mono HV6.out.size))
    clear hb
    obtain ⟨⟨d0, _⟩, ⟨d1, _⟩, ⟨d2, _⟩⟩ := (And.intro ((KB.out.to HW7.out).2 0 _ rfl) (And.intro ((KB.out.to HW7.out).2 1 _ rfl) ((KB.out.to HW7.out).2 2 _ rfl)))
    cases nok with
    | false =>
      go_wp2_with fail
      refine (CS.out _ HW7.out).mono ?_
      rintro e w8 ⟨v8, rfl, ho7, hb⟩
      obtain ⟨A7, c7, rfl, hc7, hm7⟩ := (Sl.of_own ho7).form
      try rw [hn3.out] at ho7
      have CQ7 := hid (equalSpots_c _ _ n3 w8.heap.size P w8 ((((Sl.of_own O3.out).below HV7.out (Nat.le_refl _)).more HV7.out.size).below hb (Nat.le_refl _) |>.more hb.size) (Sl.of_own ho7) (Nat.le_refl _))
      clear ho7
      clear d0 d1 d2
      have HW8 := hid (HW7.out.trans (hb.mono HW7.out.size))
      have HV8 := hid (HV7.out.trans (hb.mono HV7.out.size))
      clear hb
      obtain ⟨⟨d0, _⟩, ⟨d1, _⟩, ⟨d2, _⟩⟩ := (And.intro ((KB.out.to HW8.out).2 0 _ rfl) (And.intro ((KB.out.to HW8.out).2 1 _ rfl) ((KB.out.to HW8.out).2 2 _ rfl)))
      go_wp2_with fail
      refine CQ7.out.mono ?_
      rintro e w9 ⟨rfl, hb⟩
      clear d0 d1 d2
      have HW9 := hid (HW8.out.trans (hb.mono HW8.out.size))
      have HV9 := hid (HV8.out.trans (hb.mono HV8.out.size))
      clear hb
      obtain ⟨⟨d0, _⟩, ⟨d1, _⟩, ⟨d2, _⟩⟩ := (And.intro ((KB.out.to HW9.out).2 0 _ rfl) (And.intro ((KB.out.to HW9.out).2 1 _ rfl) ((KB.out.to HW9.out).2 2 _ rfl)))
      go_wp2_with fail
      go_ret
      exact ⟨rfl, HB.out.trans (HW9.out.mono HB.out.size)⟩
    | true =>
      obtain ⟨F1, F2, F3, F4⟩ := FP.out (by trivial) (by trivial)
      replace hH6 := hid (hH6.out (by trivial))
      replace CL := hid (CL.out (by trivial))
      have F1' := hid F1
      have F4' := hid (show ∀ i ∈ pl, i < n1 from fun i hi => by rw [hN1.out]; exact F4 i hi)
      have hPl : PT.length = pl.length := by rw [F1, List.length_map]
      replace F2 := hid F2
      clear F1 F4
      go_wp2_with fail
      refine (CP.out _ HW7.out).mono ?_
      rintro e w8 ⟨v8, rfl, ho8, hb⟩
      obtain ⟨A8, c8, rfl, hc8, hm8⟩ := (Sl.of_own ho8).form
      have HW8 := hid (HW7.out.trans (hb.mono HW7.out.size))
      have HV8 := hid (HV7.out.trans (hb.mono HV7.out.size))
      have O8 := hid (Sl.of_own ho8)
      unfold maxLen at hm8
      rw [hPl] at hc8
      rw [hPl] at O8
      rw [hPl]
      clear hb ho8 d0 d1 d2
      go_wp2_with fail
      go_loopw [7, 8] (fun av kv wr => ∃ k m : Nat, av = .int .i64 m ∧ kv = .int .i64 k ∧ k ≤ pl.length ∧ m ≤ n3 ∧ Hid (P.drop m = spotsI L (pl.drop k)) ∧ Hid (Below w2.heap.size w2 wr) ∧ Hid (Below w3.heap.size w3 wr) ∧ Hid (Below w8.heap.size w8 wr)) (fun _ kv _ => pl.length - (intOf kv).toNat)
      case atStart => exact ⟨0, 0, rfl, rfl, Nat.zero_le _, Nat.zero_le _, (show P.drop 0 = spotsI L (pl.drop 0) by rw [List.drop_zero, List.drop_zero]; exact F2.out), HW8.out, HV8.out, Below.refl _ _⟩
      case round =>
        obtain ⟨k, m, rfl, rfl, hk, hm, HM, HWr, HVr, HXr⟩ := hrel
        by_cases hkn : k < pl.length
        · obtain ⟨i, hi⟩ : ∃ i, pl[k]? = some i := ⟨_, List.getElem?_eq_getElem hkn⟩
          have hi1 := F4'.out i (List.mem_of_getElem? hi)
          obtain ⟨b8, o8, s, rfl, hb8, hs8, g8⟩ := O8.out.text hkn
          have hsn : s.data.toList = (nsOf L).getD i [] := by
            rw [F1'.out, List.getElem?_map, hi] at hs8
            exact (Option.some.inj hs8).symm
          obtain ⟨b, o, p, A5, hn5, k5, A6, fn6, k6, rfl, hp, hhn, -, ht, -, c0, c1, c2, c3, c4, c5⟩ := (TT.out _ HWr.out).1.lgr hi1
          have e8 : wr.cell? ⟨b8, o8 + k, none⟩ = some (.string s) := (HXr.out.cell (p := ⟨b8, o8 + k, none⟩) hb8).trans g8
          have hbr : b < wr.heap.size := World.block_lt_of_cell? _ _ c0
          replace hb8 : b8 < wr.heap.size := Nat.lt_of_lt_of_le hb8 HXr.out.size
          have SF := hid (fun (W : World) (hR : Below wr.heap.size wr W) => (show (W.cell? ⟨bb, 0, none⟩ = some (.slice (some ⟨b, o, none⟩) n1 k1) ∧ W.cell? ⟨bb, 1, none⟩ = some (.slice A2 n2 k2) ∧ W.cell? ⟨bb, 2, none⟩ = some (.int .i64 q)) ∧ W.cell? ⟨b8, o8 + k, none⟩ = some (.string s) ∧ W.cell? ⟨b, o + i * 6, none⟩ = some (.string p) ∧ W.cell? ⟨b, o + i * 6 + 1, none⟩ = some (.int .i64 (lvAt L i)) ∧ W.cell? ⟨b, o + i * 6 + 2, none⟩ = some (.slice A5 hn5 k5) ∧ W.cell? ⟨b, o + i * 6 + 3, none⟩ = some (.slice A6 fn6 k6) ∧ W.cell? ⟨b, o + i * 6 + 4, none⟩ = some (.bool (stopAt L i)) ∧ W.cell? ⟨b, o + i * 6 + 5, none⟩ = some (.bool (offAt L i)) from ⟨⟨((KB.out.to (HWr.out.trans (hR.mono HWr.out.size))).2 0 _ rfl).1, ((KB.out.to (HWr.out.trans (hR.mono HWr.out.size))).2 1 _ rfl).1, ((KB.out.to (HWr.out.trans (hR.mono HWr.out.size))).2 2 _ rfl).1⟩, (hR.cell (p := ⟨b8, _, none⟩) hb8).trans e8, (hR.cell (p := ⟨b, _, none⟩) hbr).trans c0, (hR.cell (p := ⟨b, _, none⟩) hbr).trans c1, (hR.cell (p := ⟨b, _, none⟩) hbr).trans c2, (hR.cell (p := ⟨b, _, none⟩) hbr).trans c3, (hR.cell (p := ⟨b, _, none⟩) hbr).trans c4, (hR.cell (p := ⟨b, _, none⟩) hbr).trans c5⟩))
          have HI := hid (spotsI_at (L := L) hi)
          have C3 := hid (CL.out i (by rw [← hN1.out]; exact hi1) s hsn)
          have HT := hid ht
          have hh6 := hH6.out i
          have HHN := hid hhn
          have HP := hid hp
          have hcap5 : hn5 ≤ k5 ∧ k5 ≤ 9223372036854775807 := by obtain ⟨_, A9, c9, e9, h9, h99, _⟩ := ht; simp at e9; unfold maxLen at h99; omega
          have s0 : (0 : Int) ≤ (k : Int) := by omega
          have s1 : (k : Int) < (pl.length : Int) := by omega
          have s2 : ((k : Int)).toNat = k := by simp
          have t0 : (0 : Int) ≤ (i : Int) := by omega
          have t1 : (i : Int) < (n1 : Int) := by omega
          have t2 : ((i : Int)).toNat = i := by simp
          have d0 := ((KB.out.to HWr.out).2 0 _ rfl).1
          clear hi hs8 hsn ht hp g8 e8 c0 c1 c2 c3 c4 c5 hhn
          go_wp2_with fail
          go_cut [9] from 52 to 61 (fun xv wc => ∃ bx, xv = .pointer (some ⟨bx, 0, none⟩) ∧ Hid (Blk wc bx [.string p, .int .i64 (lvAt L i), .slice A5 hn5 k5, .slice A6 fn6 k6, .bool (stopAt L i), .bool (offAt L i)]) ∧ Hid (Below wr.heap.size wr wc))
          case first =>
            have HR0 := hid ((Below.refl wr.heap.size wr).drew)
            refine wp_region_held_drew (S := (fun w' : World => (w'.cell? ⟨bb, 0, none⟩ = some (.slice (some ⟨b, o, none⟩) n1 k1) ∧ w'.cell? ⟨bb, 1, none⟩ = some (.slice A2 n2 k2) ∧ w'.cell? ⟨bb, 2, none⟩ = some (.int .i64 q)) ∧ w'.cell? ⟨b8, o8 + k, none⟩ = some (.string s) ∧ w'.cell? ⟨b, o + i * 6, none⟩ = some (.string p) ∧ w'.cell? ⟨b, o + i * 6 + 1, none⟩ = some (.int .i64 (lvAt L i)) ∧ w'.cell? ⟨b, o + i * 6 + 2, none⟩ = some (.slice A5 hn5 k5) ∧ w'.cell? ⟨b, o + i * 6 + 3, none⟩ = some (.slice A6 fn6 k6) ∧ w'.cell? ⟨b, o + i * 6 + 4, none⟩ = some (.bool (stopAt L i)) ∧ w'.cell? ⟨b, o + i * 6 + 5, none⟩ = some (.bool (offAt L i)))) (by kernel_rfl) (SF.out _ HR0.out) (fun hS => ?_)
            refine wpAnyH_take (i := 0) (oi := ?oi101) (v := ?v101) ?hi101 (by kernel_rfl) ?hf101 ?hr101 ?hQ101 (Or.inl ⟨?hw101, ?hy101⟩) (by assumption) ?rest101
            case hi101 => simp only [List.getElem?_toArray, List.getElem?_cons_succ, List.getElem?_cons_zero]; rfl
            case hf101 => kernel_rfl
            case hr101 => kernel_rfl
            case hw101 => rfl
            case hy101 => (intro w hSw; (try dsimp only at hSw); go_simp; all_goals (first | done | with_reducible rfl))
            case hQ101 => exact fun _ _ _ h => h
            simp only [Act.put, List.setIfInBounds_toArray, List.set_cons_zero, List.set_cons_succ]
            refine wpAnyH_take (i := 1) (oi := ?oi102) (v := ?v102) ?hi102 (by kernel_rfl) ?hf102 ?hr102 ?hQ102 (Or.inl ⟨?hw102, ?hy102⟩) (by assumption) ?rest102
            case hi102 => simp only [List.getElem?_toArray, List.getElem?_cons_succ, List.getElem?_cons_zero]; rfl
            case hf102 => kernel_rfl
            case hr102 => kernel_rfl
            case hw102 => rfl
            case hy102 => (intro w hSw; (try dsimp only at hSw); go_simp; all_goals (first | done | with_reducible rfl))
            case hQ102 => exact fun _ _ _ h => h
            simp only [Act.put, List.setIfInBounds_toArray, List.set_cons_zero, List.set_cons_succ]
            refine wpAnyH_take (i := 2) (oi := ?oi103) (v := ?v103) ?hi103 (by kernel_rfl) ?hf103 ?hr103 ?hQ103 (Or.inl ⟨?hw103, ?hy103⟩) (by assumption) ?rest103
            case hi103 => simp only [List.getElem?_toArray, List.getElem?_cons_succ, List.getElem?_cons_zero]; rfl
            case hf103 => kernel_rfl
            case hr103 => kernel_rfl
            case hw103 => rfl
            case hy103 => (intro w hSw; (try dsimp only at hSw); go_simp; all_goals (first | done | with_reducible rfl))
            case hQ103 => exact fun _ _ _ h => h
            simp only [Act.put, List.setIfInBounds_toArray, List.set_cons_zero, List.set_cons_succ]
            refine wpAnyH_take (i := 3) (oi := ?oi104) (v := ?v104) ?hi104 (by kernel_rfl) ?hf104 ?hr104 ?hQ104 (Or.inl ⟨?hw104, ?hy104⟩) (by assumption) ?rest104
            case hi104 => simp only [List.getElem?_toArray, List.getElem?_cons_succ, List.getElem?_cons_zero]; rfl
            case hf104 => kernel_rfl
            case hr104 => kernel_rfl
            case hw104 => rfl
            case hy104 => (intro w hSw; (try dsimp only at hSw); go_simp; all_goals (first | done | with_reducible rfl))
            case hQ104 => exact fun _ _ _ h => h
            simp only [Act.put, List.setIfInBounds_toArray, List.set_cons_zero, List.set_cons_succ]
            refine wpAnyH_take (i := 4) (oi := ?oi105) (v := ?v105) ?hi105 (by kernel_rfl) ?hf105 ?hr105 ?hQ105 (Or.inl ⟨?hw105, ?hy105⟩) (by assumption) ?rest105
            case hi105 => simp only [List.getElem?_toArray, List.getElem?_cons_succ, List.getElem?_cons_zero]; rfl
            case hf105 => kernel_rfl
            case hr105 => kernel_rfl
            case hw105 => rfl
            case hy105 => (intro w hSw; (try dsimp only at hSw); go_simp; all_goals (first | done | with_reducible rfl))
            case hQ105 => exact fun _ _ _ h => h
            simp only [Act.put, List.setIfInBounds_toArray, List.set_cons_zero, List.set_cons_succ]
            refine wpAnyH_take (i := 5) (oi := ?oi106) (v := ?v106) ?hi106 (by kernel_rfl) ?hf106 ?hr106 ?hQ106 (Or.inl ⟨?hw106, ?hy106⟩) (by assumption) ?rest106
            case hi106 => simp only [List.getElem?_toArray, List.getElem?_cons_succ, List.getElem?_cons_zero]; rfl
            case hf106 => kernel_rfl
            case hr106 => kernel_rfl
            case hw106 => rfl
            case hy106 => (intro w hSw; (try dsimp only at hSw); go_simp; all_goals (first | done | with_reducible rfl))
            case hQ106 => exact fun _ _ _ h => h
            simp only [Act.put, List.setIfInBounds_toArray, List.set_cons_zero, List.set_cons_succ]
            refine wpAnyH_take (i := 6) (oi := ?oi107) (v := ?v107) ?hi107 (by kernel_rfl) ?hf107 ?hr107 ?hQ107 (Or.inl ⟨?hw107, ?hy107⟩) (by assumption) ?rest107
            case hi107 => simp only [List.getElem?_toArray, List.getElem?_cons_succ, List.getElem?_cons_zero]; rfl
            case hf107 => kernel_rfl
            case hr107 => kernel_rfl
            case hw107 => rfl
            case hy107 => (intro w hSw; (try dsimp only at hSw); go_simp; all_goals (first | done | with_reducible rfl))
            case hQ107 => exact fun _ _ _ h => h
            simp only [Act.put, List.setIfInBounds_toArray, List.set_cons_zero, List.set_cons_succ]
            generalize hwd : wr.drew = wd at *
            clear hwd
            refine wpAnyH_ready (rs := [7, 10]) (by kernel_rfl) (by simp) ?_
            refine AllReadyH.cons (o := ?oi108) ?hi108 (fun K hK => ?stepA108) (AllReadyH.cons (o := ?oj108) ?hj108 (fun K hK => ?stepB108) AllReadyH.nil)
            case hi108 => simp only [List.getElem?_toArray, List.getElem?_cons_succ, List.getElem?_cons_zero]; rfl
            case hj108 => simp only [List.getElem?_toArray, List.getElem?_cons_succ, List.getElem?_cons_zero]; rfl
            all_goals rw [if_pos (by rfl)]
            all_goals go_simp
            · go_at_call 21
              refine (C3.out _ (HWr.out.trans (HR0.out.mono HWr.out.size))).mono ?_
              rintro e wa ⟨rfl, hb⟩
              have HR1 := hid (HR0.out.trans (hb.mono HR0.out.size))
              clear hb
              refine hK.out _ _ (SF.out _ HR1.out) (fun hS => ?_)
              refine wpAnyH_take (i := 8) (oi := ?oi109) (v := ?v109) ?hi109 (by kernel_rfl) ?hf109 ?hr109 ?hQ109 (Or.inl ⟨?hw109, ?hy109⟩) (by assumption) ?rest109
              case hi109 => simp only [List.getElem?_toArray, List.getElem?_cons_succ, List.getElem?_cons_zero]; rfl
              case hf109 => kernel_rfl
              case hr109 => kernel_rfl
              case hw109 => rfl
              case hy109 => (intro w hSw; (try dsimp only at hSw); go_simp; all_goals (first | done | with_reducible rfl))
              case hQ109 => exact fun _ _ _ h => h
              simp only [Act.put, List.setIfInBounds_toArray, List.set_cons_zero, List.set_cons_succ]
              refine wpAnyH_take (i := 9) (oi := ?oi110) (v := ?v110) ?hi110 (by kernel_rfl) ?hf110 ?hr110 ?hQ110 (Or.inl ⟨?hw110, ?hy110⟩) (by assumption) ?rest110
              case hi110 => simp only [List.getElem?_toArray, List.getElem?_cons_succ, List.getElem?_cons_zero]; rfl
              case hf110 => kernel_rfl
              case hr110 => kernel_rfl
              case hw110 => rfl
              case hy110 => (intro w hSw; (try dsimp only at hSw); go_simp; all_goals (first | done | with_reducible rfl))
              case hQ110 => exact fun _ _ _ h => h
              simp only [Act.put, List.setIfInBounds_toArray, List.set_cons_zero, List.set_cons_succ]
              refine wpAnyH_ready (rs := [10]) (by kernel_rfl) (by simp) ?_
              refine AllReadyH.cons (o := ?oi111) ?hi111 (fun K hK => ?step111) AllReadyH.nil
              case hi111 => simp only [List.getElem?_toArray, List.getElem?_cons_succ, List.getElem?_cons_zero]; rfl
              rw [if_pos (by rfl)]
              go_simp
              have HR2 := hid (HR1.out.alloc HR1.out.size (.cells #[.string ByteArray.empty, .int .i64 0, .slice none 0 0, .slice none 0 0, .bool false, .bool false] 47))
              have KX := hid (Blk.new wa #[.string ByteArray.empty, .int .i64 0, .slice none 0 0, .slice none 0 0, .bool false, .bool false] 47)
              have hbx : wr.heap.size ≤ wa.heap.size := HR1.out.size
              refine hK.out _ _ (SF.out _ HR2.out) (fun hS => ?_)
              have HR3 := hid (below_setCells wa.heap.size hbx [.string p, .int .i64 (lvAt L i), .slice A5 hn5 k5, .slice A6 fn6 k6, .bool (stopAt L i), .bool (offAt L i)] 0 _ HR2.out)
              have RB := hid (KX.out.store (vs := [.string p, .int .i64 (lvAt L i), .slice A5 hn5 k5, .slice A6 fn6 k6, .bool (stopAt L i), .bool (offAt L i)]) rfl)
              have hth := KX.out.there
              refine wpAnyH_ready (rs := [11]) (by kernel_rfl) (by simp) ?_
              refine AllReadyH.cons (o := ?oi112) ?hi112 (fun K hK => ?step112) AllReadyH.nil
              case hi112 => simp only [List.getElem?_toArray, List.getElem?_cons_succ, List.getElem?_cons_zero]; rfl
              rw [if_pos (by rfl)]
              refine wp_store_mid 47 (.tmp 9) (.tmp 61) rfl wa.heap.size 0 #[.string p, .int .i64 (lvAt L i), .slice A5 hn5 k5, .slice A6 fn6 k6, .bool (stopAt L i), .bool (offAt L i)] (by rfl) (by rfl) hth Try.sizeLogger (all_oneCell_toArray (cs := [.string p, .int .i64 (lvAt L i), .slice A5 hn5 k5, .slice A6 fn6 k6, .bool (stopAt L i), .bool (offAt L i)]) (List.all_eq_true.1 rfl)) ?_
              refine hK.out _ _ (SF.out _ HR3.out) (fun hS => ?_)
              simp only [Act.put, List.setIfInBounds_toArray, List.set_cons_zero, List.set_cons_succ]
              refine wpAnyH_done (by kernel_rfl) ?_ _
              clear hS hth
              go_wp2_with fail
              go_meet
              case rel => exact ⟨_, rfl, RB.out, HR3.out⟩
            · have HR1 := hid (HR0.out.alloc HR0.out.size (.cells #[.string ByteArray.empty, .int .i64 0, .slice none 0 0, .slice none 0 0, .bool false, .bool false] 47))
              have KX0 := hid (Blk.new wd #[.string ByteArray.empty, .int .i64 0, .slice none 0 0, .slice none 0 0, .bool false, .bool false] 47)
              have hbx : wr.heap.size ≤ wd.heap.size := HR0.out.size
              refine hK.out _ _ (SF.out _ HR1.out) (fun hS => ?_)
              refine wpAnyH_ready (rs := [7]) (by kernel_rfl) (by simp) ?_
              refine AllReadyH.cons (o := ?oi113) ?hi113 (fun K hK => ?step113) AllReadyH.nil
              case hi113 => simp only [List.getElem?_toArray, List.getElem?_cons_succ, List.getElem?_cons_zero]; rfl
              rw [if_pos (by rfl)]
              go_simp
              go_at_call 21
              refine (C3.out _ (HWr.out.trans (HR1.out.mono HWr.out.size))).mono ?_
              rintro e wa ⟨rfl, hb⟩
              have HR2 := hid (HR1.out.trans (hb.mono HR1.out.size))
              have KX := hid (KX0.out.to hb)
              clear hb
              refine hK.out _ _ (SF.out _ HR2.out) (fun hS => ?_)
              refine wpAnyH_take (i := 8) (oi := ?oi114) (v := ?v114) ?hi114 (by kernel_rfl) ?hf114 ?hr114 ?hQ114 (Or.inl ⟨?hw114, ?hy114⟩) (by assumption) ?rest114
              case hi114 => simp only [List.getElem?_toArray, List.getElem?_cons_succ, List.getElem?_cons_zero]; rfl
              case hf114 => kernel_rfl
              case hr114 => kernel_rfl
              case hw114 => rfl
              case hy114 => (intro w hSw; (try dsimp only at hSw); go_simp; all_goals (first | done | with_reducible rfl))
              case hQ114 => exact fun _ _ _ h => h
              simp only [Act.put, List.setIfInBounds_toArray, List.set_cons_zero, List.set_cons_succ]
              refine wpAnyH_take (i := 9) (oi := ?oi115) (v := ?v115) ?hi115 (by kernel_rfl) ?hf115 ?hr115 ?hQ115 (Or.inl ⟨?hw115, ?hy115⟩) (by assumption) ?rest115
              case hi115 => simp only [List.getElem?_toArray, List.getElem?_cons_succ, List.getElem?_cons_zero]; rfl
              case hf115 => kernel_rfl
              case hr115 => kernel_rfl
              case hw115 => rfl
              case hy115 => (intro w hSw; (try dsimp only at hSw); go_simp; all_goals (first | done | with_reducible rfl))
              case hQ115 => exact fun _ _ _ h => h
              simp only [Act.put, List.setIfInBounds_toArray, List.set_cons_zero, List.set_cons_succ]
              have HR3 := hid (below_setCells wd.heap.size hbx [.string p, .int .i64 (lvAt L i), .slice A5 hn5 k5, .slice A6 fn6 k6, .bool (stopAt L i), .bool (offAt L i)] 0 _ HR2.out)
              have RB := hid (KX.out.store (vs := [.string p, .int .i64 (lvAt L i), .slice A5 hn5 k5, .slice A6 fn6 k6, .bool (stopAt L i), .bool (offAt L i)]) rfl)
              have hth := KX.out.there
              refine wpAnyH_ready (rs := [11]) (by kernel_rfl) (by simp) ?_
              refine AllReadyH.cons (o := ?oi116) ?hi116 (fun K hK => ?step116) AllReadyH.nil
              case hi116 => simp only [List.getElem?_toArray, List.getElem?_cons_succ, List.getElem?_cons_zero]; rfl
              rw [if_pos (by rfl)]
              refine wp_store_mid 47 (.tmp 9) (.tmp 61) rfl wd.heap.size 0 #[.string p, .int .i64 (lvAt L i), .slice A5 hn5 k5, .slice A6 fn6 k6, .bool (stopAt L i), .bool (offAt L i)] (by rfl) (by rfl) hth Try.sizeLogger (all_oneCell_toArray (cs := [.string p, .int .i64 (lvAt L i), .slice A5 hn5 k5, .slice A6 fn6 k6, .bool (stopAt L i), .bool (offAt L i)]) (List.all_eq_true.1 rfl)) ?_
              refine hK.out _ _ (SF.out _ HR3.out) (fun hS => ?_)
              simp only [Act.put, List.setIfInBounds_toArray, List.set_cons_zero, List.set_cons_succ]
              refine wpAnyH_done (by kernel_rfl) ?_ _
              clear hS hth
              go_wp2_with fail
              go_meet
              case rel => exact ⟨_, rfl, RB.out, HR3.out⟩
          case rest =>
            obtain ⟨bx, rfl, KX, HRc⟩ := hcut
            have HWc := hid (HWr.out.trans (HRc.out.mono HWr.out.size))
            have HVc := hid (HVr.out.trans (HRc.out.mono HVr.out.size))
            have HXc := hid (HXr.out.trans (HRc.out.mono HXr.out.size))
            have HMi := hid (show P.drop m = (ownS L i).drop 0 ++ (if stopAt L i then [] else spotsI L (pl.drop (k + 1))) by rw [HM.out, HI.out, List.drop_zero])
            have hlo : (ownS L i).length = hn5 := by unfold ownS; rw [List.length_map, HHN.out]
            replace hlo := hid hlo
            clear d0
            have x2 := (KX.out.2 2 _ rfl).1
            go_wp2_with fail
            go_loopw [7, 10] (fun av jv wr => ∃ j a : Nat, av = .int .i64 a ∧ jv = .int .i64 j ∧ j ≤ hn5 ∧ a ≤ n3 ∧ Hid (P.drop a = (ownS L i).drop j ++ (if stopAt L i then [] else spotsI L (pl.drop (k + 1)))) ∧ Hid (Below wc.heap.size wc wr)) (fun _ jv _ => hn5 - (intOf jv).toNat)
            case atStart => exact ⟨0, m, rfl, rfl, Nat.zero_le _, hm, HMi.out, Below.refl _ _⟩
            case round =>
              obtain ⟨j, a, rfl, rfl, hj, ha, HJ, HCr⟩ := hrel
              clear x2
              have x2 := ((KX.out.to HCr.out).2 2 _ rfl).1
              by_cases hjn : j < hn5
              · have x0 := ((KX.out.to HCr.out).2 0 _ rfl).1
                obtain ⟨bt, ot, t, rfl, hbt, hxt, gt⟩ := HT.out.text hjn
                have et0 := (HRc.out.cell (p := ⟨bt, ot + j, none⟩) (World.block_lt_of_cell? _ _ gt)).trans gt
                have et := (HCr.out.cell (p := ⟨bt, ot + j, none⟩) (World.block_lt_of_cell? _ _ et0)).trans et0
                have hxs : (ownS L i)[j]? = some ⟨p.data.toList, t.data.toList⟩ := by unfold ownS; rw [List.getElem?_map, hxt, HP.out]; rfl
                obtain ⟨hqa, HJ2⟩ := spot_next HJ.out hxs
                have han : a < n3 := by have h9 := (List.getElem?_eq_some_iff.1 hqa).1; have h8 := hn3.out; omega
                obtain ⟨b3, o3, lg, hd', rfl, hb3, hx3, f0, f1⟩ := spcells_at (Sl.of_own O3.out) han
                rw [hqa] at hx3
                have hx3' := Option.some.inj hx3
                simp only [Spt.mk.injEq, bytes_eq_iff] at hx3'
                obtain ⟨rfl, rfl⟩ := hx3'
                have HVi := hid (HVc.out.trans (HCr.out.mono HVc.out.size))
                have z0 := (HVi.out.cell (p := ⟨b3, o3 + a * 2, none⟩) hb3).trans f0
                have z1 := (HVi.out.cell (p := ⟨b3, o3 + a * 2 + 1, none⟩) hb3).trans f1
                have HJ3 := hid HJ2
                have s0 : (0 : Int) ≤ (j : Int) := by omega
                have s1 : (j : Int) < (hn5 : Int) := by omega
                have s2 : ((j : Int)).toNat = j := by simp
                have t0 : (0 : Int) ≤ (a : Int) := by omega
                have t1 : (a : Int) < (n3 : Int) := by omega
                have t2 : ((a : Int)).toNat = a := by simp
                clear gt et0 hxs hqa HJ2 hx3 f0 f1 hxt
                go_wp2_with fail
                go_quiet (fail)
                go_wp2_with fail
                go_roundw
                case rel => exact ⟨j + 1, a + 1, by go_num, by go_num, by omega, by omega, HJ3.out, below_dr HCr.out _⟩
                case measure => simp [intOf]; omega
              · have hdr : (ownS L i).drop j = [] := List.drop_eq_nil_of_le (by rw [hlo.out]; omega)
                have HE := hid (show P.drop a = (if stopAt L i then [] else spotsI L (pl.drop (k + 1))) by rw [HJ.out, hdr]; rfl)
                have x4 := ((KX.out.to HCr.out).2 4 _ rfl).1
                clear hdr
                cases hst : stopAt L i with
                | true =>
                  have han : a = n3 := by
                    have h9 := HE.out
                    rw [hst, if_pos rfl] at h9
                    have h8 := congrArg List.length h9
                    rw [List.length_drop, hn3.out, List.length_nil] at h8
                    omega
                  have q3 : ((a : Int) == (n3 : Int)) = true := by rw [han]; simp
                  rw [hst] at x4
                  clear hst han
                  go_wp2_with fail
                  go_ret
                  exact ⟨rfl, HB.out.trans ((HWc.out.trans (HCr.out.mono HWc.out.size)).mono HB.out.size)⟩
                | false =>
                  have HE2 := hid (show P.drop a = spotsI L (pl.drop (k + 1)) by have h9 := HE.out; rw [hst] at h9; exact h9)
                  rw [hst] at x4
                  clear hst
                  go_wp2_with fail
                  go_roundw
                  case rel => exact ⟨k + 1, a, by go_num, by go_num, by omega, ha, HE2.out, HWc.out.trans (HCr.out.mono HWc.out.size), HVc.out.trans (HCr.out.mono HVc.out.size), HXc.out.trans (HCr.out.mono HXc.out.size)⟩
                  case measure => simp [intOf]; omega
        · have hle : spotsI L (pl.drop k) = [] := spotsI_end (by omega)
          have hmn : m = n3 := by
            have h9 := HM.out
            rw [hle] at h9
            have h8 := congrArg List.length h9
            rw [List.length_drop, hn3.out, List.length_nil] at h8
            omega
          have q3 : ((m : Int) == (n3 : Int)) = true := by rw [hmn]; simp
          clear hle hmn
          go_wp2_with fail
          go_ret
          exact ⟨rfl, HB.out.trans (HWr.out.mono HB.out.size)⟩
end Go.Proofs.Ytpfnjkmkenaipaa
