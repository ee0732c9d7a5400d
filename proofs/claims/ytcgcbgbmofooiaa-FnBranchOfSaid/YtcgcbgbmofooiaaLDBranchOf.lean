/-
  WALK: the law FnBranchOf. By gen_t.py.
-/
import Derived.Test.YtcgcbgbmofooiaaE12
import Derived.Test.YtcgcbgbmofooiaaE8
import Derived.Test.YtcgcbgbmofooiaaLookS
namespace Go.Proofs.Ytcgcbgbmofooiaa
open Go.RowKit Nm
set_option linter.unusedSimpArgs false
set_option linter.unusedVariables false

set_option maxHeartbeats 8000000 in
set_option maxRecDepth 100000 in
theorem walk_FnBranchOf (a0 : Option Addr) (len0 cap0 : Nat) (z0 : List Int) (w : World) (w0 : IsRow .u8 w a0 len0 cap0 z0) :
    Calls Try.prog 3 #[.slice a0 len0 cap0] w (BoolPost w true) := by
  have hb0 := w0.leT
  by_cases h1 : (1048576 : Int) < (len0 : Int)
  · go_enter Try.func3, Try.ntmps3
    go_wp2_with fail
    go_ret
    exact ⟨rfl, Below.refl _ _⟩
  have DR := hid (drawBranchOf_c a0 len0 cap0 z0 w w0)
  clear w0
  go_enter Try.func3, Try.ntmps3
  go_wp2_with fail
  refine DR.out.mono ?_
  rintro e w1 ⟨v, rs, L, H, q, nm, rfl, hs, hsm, hnm, hr, hb⟩
  obtain ⟨A1, n1, k1, A2, n2, k2, rfl, hn1, hn2⟩ := hs.form_ hr
  have hd := sm_fit hsm (by omega)
  have TI0 := hs.at_ hr hd
  have hbx : Below w1.heap.size w1 (w1.alloc (.cells #[.slice A1 n1 k1, .slice A2 n2 k2, .int .i64 q] 26)) := (Below.refl _ _).alloc (Nat.le_refl _) _
  have TI := hid (TI0.below hbx (Nat.le_refl _))
  have KB := hid (Blk.new w1 #[.slice A1 n1 k1, .slice A2 n2 k2, .int .i64 q] 26)
  have HB := hid (hb.trans (hbx.mono hb.size))
  have hl1 : w1.heap.size < (w1.alloc (.cells #[.slice A1 n1 k1, .slice A2 n2 k2, .int .i64 q] 26)).heap.size := by simp
  have HL := hid (And.intro hn1 (And.intro hsm.1 hsm.2.1.1))
  replace hd := hid hd
  clear hs hr hb hn1 hn2 hsm TI0 hbx DR
  go_wp2_with fail
  generalize hbb : w1.heap.size = bb at *
  generalize w1.alloc (.cells #[.slice A1 n1 k1, .slice A2 n2 k2, .int .i64 q] 26) = w2 at *
  clear hbb
  have d0 := (KB.out.2 0 _ rfl).1
  have d1 := (KB.out.2 1 _ rfl).1
  have d2 := (KB.out.2 2 _ rfl).1
  have HW := hid (Below.refl w2.heap.size w2)
  have TT := hid (fun (W : World) (hW : Below w2.heap.size w2 W) => (And.intro (TI.out.below hW (Nat.le_of_lt hl1)) (Nat.le_trans (Nat.le_of_lt hl1) hW.size)))
  have CI := hid (fun (W : World) (hW : Below w2.heap.size w2 W) => implBranchOf_c nm (TT.out W hW).1 (TT.out W hW).2 (by unfold maxTxt; omega))
  have CS := hid (fun (W : World) (hW : Below w2.heap.size w2 W) => specBranchOf_c nm (TT.out W hW).1 (TT.out W hW).2 (by unfold maxTxt; omega))
  have CT := hid (fun (W : World) (hW : Below w2.heap.size w2 W) => implValidTreeX_c (TT.out W hW).1 (TT.out W hW).2)
  have CN := hid (fun (W : World) (hW : Below w2.heap.size w2 W) => implValidName_c nm W (by unfold maxLen; omega))
  have CL := hid (fun (W : World) (hW : Below w2.heap.size w2 W) => implLoggerAtX_c nm (TT.out W hW).1 (TT.out W hW).2)
  have CC := hid (fun (W : World) (hW : Below w2.heap.size w2 W) => implChildrenOf_c nm (TT.out W hW).1 (TT.out W hW).2)
  have CB := hid (fun (s : ByteArray) (hs : s.size ≤ 1048576) (W : World) (hW : Below w2.heap.size w2 W) => implBranchOf_c s (TT.out W hW).1 (TT.out W hW).2 hs)
  have CP := hid (fun (s : ByteArray) (hs : s.size ≤ 1048576) (W : World) (hW : Below w2.heap.size w2 W) => implPathOf_c s (TT.out W hW).1 (TT.out W hW).2 (by unfold maxLen; omega))
  have FS := hid (fun (h : treeOk L H q = true) (hx : nm.data.toList ∈ nsOf L) => branch_sum h hx)
  have FP := hid (fun (h : treeOk L H q = true) (hx : nm.data.toList ∈ nsOf L) (y : Name) (hy : y ∈ branchT L H q nm.data.toList) => branch_path h hx hy)
  have FN := hid (fun (hx : nm.data.toList ∉ nsOf L) => branch_none (H := H) (q := q) hx)
  have FC := hid (fun (h : treeOk L H q = true) (c : Name) (hc : c ∈ childrenT L H q nm.data.toList) => child_in h hc)
  have FL := hid (fun (x : Name) => branchT_len L H q x)
  have hP8 := branchT_len L H q nm.data.toList
  have hK8 := childrenT_len L H q nm.data.toList
  generalize hP : branchT L H q nm.data.toList = P at *
  generalize hKd : childrenT L H q nm.data.toList = K at *
  generalize hok : treeOk L H q = ok at *
  generalize hnok : nameOk nm.data.toList = nok at *
  replace hok := hid hok
  replace hnok := hid hnok
  clear hP hKd
  go_wp2_with fail
  refine (CI.out _ HW.out).mono ?_
  rintro e w3 ⟨v3, rfl, ho3, hb⟩
  obtain ⟨A3, c3, rfl, hc3, hm3⟩ := (Sl.of_own ho3).form
  have HW3 := hid (HW.out.trans (hb.mono HW.out.size))
  generalize hn3 : P.length = n3 at *
  have O3 := hid ho3
  have HV3 := hid (Below.refl w3.heap.size w3)
  replace hn3 := hid hn3
  clear hb ho3 d0 d1 d2
  obtain ⟨⟨d0, _⟩, ⟨d1, _⟩, ⟨d2, _⟩⟩ := (And.intro ((KB.out.to HW3.out).2 0 _ rfl) (And.intro ((KB.out.to HW3.out).2 1 _ rfl) ((KB.out.to HW3.out).2 2 _ rfl)))
  go_wp2_with fail
  refine (CS.out _ HW3.out).mono ?_
  rintro e w4 ⟨v4, rfl, ho4, hb⟩
  obtain ⟨A4, c4, rfl, hc4, hm4⟩ := (Sl.of_own ho4).form
  have CQ := hid (equalTexts_c _ _ _ _ w4.heap.size P P w4 (((Sl.of_own O3.out).below hb (Nat.le_refl _)).more hb.size) (Sl.of_own ho4) (Nat.le_refl _))
  clear ho4
  clear d0 d1 d2
  have HW4 := hid (HW3.out.trans (hb.mono HW3.out.size))
  have HV4 := hid (HV3.out.trans (hb.mono HV3.out.size))
  clear hb
  obtain ⟨⟨d0, _⟩, ⟨d1, _⟩, ⟨d2, _⟩⟩ := (And.intro ((KB.out.to HW4.out).2 0 _ rfl) (And.intro ((KB.out.to HW4.out).2 1 _ rfl) ((KB.out.to HW4.out).2 2 _ rfl)))
  go_wp2_with fail
  refine CQ.out.mono ?_
  rintro e w5 ⟨rfl, hb⟩
  simp only [decide_true]
  clear d0 d1 d2
  have HW5 := hid (HW4.out.trans (hb.mono HW4.out.size))
  have HV5 := hid (HV4.out.trans (hb.mono HV4.out.size))
  clear hb
  obtain ⟨⟨d0, _⟩, ⟨d1, _⟩, ⟨d2, _⟩⟩ := (And.intro ((KB.out.to HW5.out).2 0 _ rfl) (And.intro ((KB.out.to HW5.out).2 1 _ rfl) ((KB.out.to HW5.out).2 2 _ rfl)))
  go_wp2_with fail
  refine (CT.out _ HW5.out).mono ?_
  rintro e w6 ⟨rfl, hb⟩
  clear d0 d1 d2
  have HW6 := hid (HW5.out.trans (hb.mono HW5.out.size))
  have HV6 := hid (HV5.out.trans (hb.mono HV5.out.size))
  clear hb
  obtain ⟨⟨d0, _⟩, ⟨d1, _⟩, ⟨d2, _⟩⟩ := (And.intro ((KB.out.to HW6.out).2 0 _ rfl) (And.intro ((KB.out.to HW6.out).2 1 _ rfl) ((KB.out.to HW6.out).2 2 _ rfl)))
  cases ok with
  | false =>
    go_wp2_with fail
    refine (CS.out _ HW6.out).mono ?_
    rintro e w7 ⟨v7, rfl, ho7, hb⟩
    obtain ⟨A7, c7, rfl, hc7, hm7⟩ := (Sl.of_own ho7).form
    have CQ7 := hid (equalTexts_c _ _ _ _ w7.heap.size P P w7 ((((Sl.of_own O3.out).below HV6.out (Nat.le_refl _)).more HV6.out.size).below hb (Nat.le_refl _) |>.more hb.size) (Sl.of_own ho7) (Nat.le_refl _))
    clear ho7
    clear d0 d1 d2
    have HW7 := hid (HW6.out.trans (hb.mono HW6.out.size))
    have HV7 := hid (HV6.out.trans (hb.mono HV6.out.size))
    clear hb
    obtain ⟨⟨d0, _⟩, ⟨d1, _⟩, ⟨d2, _⟩⟩ := (And.intro ((KB.out.to HW7.out).2 0 _ rfl) (And.intro ((KB.out.to HW7.out).2 1 _ rfl) ((KB.out.to HW7.out).2 2 _ rfl)))
    go_wp2_with fail
    refine CQ7.out.mono ?_
    rintro e w8 ⟨rfl, hb⟩
    simp only [decide_true]
    clear d0 d1 d2
    have HW8 := hid (HW7.out.trans (hb.mono HW7.out.size))
    have HV8 := hid (HV7.out.trans (hb.mono HV7.out.size))
    clear hb
    obtain ⟨⟨d0, _⟩, ⟨d1, _⟩, ⟨d2, _⟩⟩ := (And.intro ((KB.out.to HW8.out).2 0 _ rfl) (And.intro ((KB.out.to HW8.out).2 1 _ rfl) ((KB.out.to HW8.out).2 2 _ rfl)))
    go_wp2_with fail
    go_ret
    exact ⟨rfl, HB.out.trans (HW8.out.mono HB.out.size)⟩
  | true =>
    replace FS := hid (FS.out (by trivial))
    replace FP := hid (FP.out (by trivial))
    replace FC := hid (FC.out (by trivial))
    clear CQ
    go_wp2_with fail
    refine (CN.out _ HW6.out).mono ?_
    rintro e w7 ⟨rfl, hb⟩
    clear d0 d1 d2
    have HW7 := hid (HW6.out.trans (hb.mono HW6.out.size))
    have HV7 := hid (HV6.out.trans (hb.mono HV6.out.size))
    clear hb
    obtain ⟨⟨d0, _⟩, ⟨d1, _⟩, ⟨d2, _⟩⟩ := (And.intro ((KB.out.to HW7.out).2 0 _ rfl) (And.intro ((KB.out.to HW7.out).2 1 _ rfl) ((KB.out.to HW7.out).2 2 _ rfl)))
    cases nok with
    | false =>
      go_wp2_with fail
      refine (CS.out _ HW7.out).mono ?_
      rintro e w8 ⟨v8, rfl, ho7, hb⟩
      obtain ⟨A7, c7, rfl, hc7, hm7⟩ := (Sl.of_own ho7).form
      have CQ7 := hid (equalTexts_c _ _ _ _ w8.heap.size P P w8 ((((Sl.of_own O3.out).below HV7.out (Nat.le_refl _)).more HV7.out.size).below hb (Nat.le_refl _) |>.more hb.size) (Sl.of_own ho7) (Nat.le_refl _))
      clear ho7
      clear d0 d1 d2
      have HW8 := hid (HW7.out.trans (hb.mono HW7.out.size))
      have HV8 := hid (HV7.out.trans (hb.mono HV7.out.size))
      clear hb
      obtain ⟨⟨d0, _⟩, ⟨d1, _⟩, ⟨d2, _⟩⟩ := (And.intro ((KB.out.to HW8.out).2 0 _ rfl) (And.intro ((KB.out.to HW8.out).2 1 _ rfl) ((KB.out.to HW8.out).2 2 _ rfl)))
      go_wp2_with fail
      refine CQ7.out.mono ?_
      rintro e w9 ⟨rfl, hb⟩
      simp only [decide_true]
      clear d0 d1 d2
      have HW9 := hid (HW8.out.trans (hb.mono HW8.out.size))
      have HV9 := hid (HV8.out.trans (hb.mono HV8.out.size))
      clear hb
      obtain ⟨⟨d0, _⟩, ⟨d1, _⟩, ⟨d2, _⟩⟩ := (And.intro ((KB.out.to HW9.out).2 0 _ rfl) (And.intro ((KB.out.to HW9.out).2 1 _ rfl) ((KB.out.to HW9.out).2 2 _ rfl)))
      go_wp2_with fail
      go_ret
      exact ⟨rfl, HB.out.trans (HW9.out.mono HB.out.size)⟩
    | true =>
      replace CL := hid (show ∀ (W : World), Below w2.heap.size w2 W → Calls Try.prog 15 #[.agg #[.slice A1 n1 k1, .slice A2 n2 k2, .int .i64 q], .string nm] W (fun e w' => e = .returned (.int .i64 (idxL (namesOf L) nm.data.toList)) ∧ Below W.heap.size W w') from CL.out)
      have HI := hid (idx_neg (namesOf L) nm.data.toList)
      generalize idxL (namesOf L) nm.data.toList = ix at *
      go_wp2_with fail
      refine (CL.out _ HW7.out).mono ?_
      rintro e w8 ⟨rfl, hb⟩
      clear d0 d1 d2
      have HW8 := hid (HW7.out.trans (hb.mono HW7.out.size))
      have HV8 := hid (HV7.out.trans (hb.mono HV7.out.size))
      clear hb
      obtain ⟨⟨d0, _⟩, ⟨d1, _⟩, ⟨d2, _⟩⟩ := (And.intro ((KB.out.to HW8.out).2 0 _ rfl) (And.intro ((KB.out.to HW8.out).2 1 _ rfl) ((KB.out.to HW8.out).2 2 _ rfl)))
      by_cases hneg : ix < 0
      · have hx : nm.data.toList ∉ nsOf L := HI.out.1 hneg
        have CH := hid (lawHasText_c _ n3 w8.heap.size P nm w8 (((Sl.of_own O3.out).below HV8.out (Nat.le_refl _)).more HV8.out.size))
        rw [decide_eq_false (FN.out hx)] at CH
        clear hx
        go_wp2_with fail
        refine CH.out.mono ?_
        rintro e w9 ⟨rfl, h9⟩
        obtain rfl := h9
        go_wp2_with fail
        go_ret
        exact ⟨rfl, HB.out.trans (HW8.out.mono HB.out.size)⟩
      · have hx : nm.data.toList ∈ nsOf L := Classical.byContradiction fun h => hneg (HI.out.2 h)
        replace FS := hid (FS.out hx)
        replace FP := hid (FP.out hx)
        clear hx
        go_wp2_with fail
        refine (CC.out _ HW8.out).mono ?_
        rintro e w9 ⟨v9, rfl, ho9, hb⟩
        obtain ⟨A9, c9, rfl, hc9, hm9⟩ := (Sl.of_own ho9).form
        have HW9 := hid (HW8.out.trans (hb.mono HW8.out.size))
        have HV9 := hid (HV8.out.trans (hb.mono HV8.out.size))
        generalize hn9 : K.length = n9 at *
        have O9 := hid ho9
        replace hn9 := hid hn9
        clear hb ho9 d0 d1 d2
        go_wp2_with fail
        go_loopw [6, 8] (fun nv kv wr => ∃ k m : Nat, nv = .int .i64 m ∧ kv = .int .i64 k ∧ k ≤ n9 ∧ m ≤ 1 + 8 * k ∧ Hid (m = 1 + ((K.take k).map (fun c => (branchT L H q c).length)).sum) ∧ Hid (Below w2.heap.size w2 wr) ∧ Hid (Below w3.heap.size w3 wr) ∧ Hid (Below w9.heap.size w9 wr)) (fun _ kv _ => n9 - (intOf kv).toNat)
        case atStart => exact ⟨0, 1, rfl, rfl, Nat.zero_le _, Nat.le_refl _, rfl, HW9.out, HV9.out, Below.refl _ _⟩
        case round =>
          obtain ⟨k, m, rfl, rfl, hk, hmk, HM, HWr, HVr, HUr⟩ := hrel
          by_cases hkn : k < n9
          · have d0 := ((KB.out.to HWr.out).2 0 _ rfl).1
            have d1 := ((KB.out.to HWr.out).2 1 _ rfl).1
            have d2 := ((KB.out.to HWr.out).2 2 _ rfl).1
            obtain ⟨y, hy⟩ : ∃ y, K[k]? = some y := ⟨_, List.getElem?_eq_getElem (by have := hn9.out; omega)⟩
            obtain ⟨sy, hsy1, hsy2⟩ : ∃ sy : ByteArray, txt y = .string sy ∧ sy.data.toList = y := ⟨⟨y.toArray⟩, rfl, by simp⟩
            obtain ⟨g9, rfl, hg9⟩ := own_some O9.out (by omega)
            have cy : wr.cell? ⟨g9, k, none⟩ = some (.string sy) := by
              have h9 := O9.out.cellAt k (by omega)
              rw [List.getElem?_map, hy] at h9
              rw [← hsy1]
              exact (HUr.out.cell (p := ⟨g9, k, none⟩) (O9.out.lt g9 rfl).2).trans h9
            have HWd := hid (HWr.out.drew)
            have HVd := hid (HVr.out.drew)
            have HUd := hid (HUr.out.drew)
            have C3 := hid (CB.out sy (by rw [Lib.size_eq, hsy2]; have := FC.out y (List.mem_of_getElem? hy); omega) wr.drew HWd.out)
            have s0 : (0 : Int) ≤ (k : Int) := by omega
            have s1 : (k : Int) < (n9 : Int) := by omega
            have s2 : ((k : Int)).toNat = k := by simp
            have hc8 := FL.out sy.data.toList
            have HS := hid (show ((K.take (k + 1)).map (fun c => (branchT L H q c).length)).sum = ((K.take k).map (fun c => (branchT L H q c).length)).sum + (branchT L H q sy.data.toList).length by rw [List.take_add_one, hy, hsy2]; simp)
            clear hy hsy1 hsy2
            go_wp2_with fail
            refine wp_region_held_drew (S := (fun w' : World => (w'.cell? ⟨bb, 0, none⟩ = some (.slice A1 n1 k1) ∧ w'.cell? ⟨bb, 1, none⟩ = some (.slice A2 n2 k2) ∧ w'.cell? ⟨bb, 2, none⟩ = some (.int .i64 q)) ∧ w'.cell? ⟨g9, k, none⟩ = some (.string sy))) (by kernel_rfl) ⟨⟨d0, d1, d2⟩, cy⟩ (fun hS => ?_)
            refine wpAnyH_take (i := 0) (oi := ?oi101) (v := ?v101) ?hi101 (by kernel_rfl) ?hf101 ?hr101 ?hQ101 (Or.inl ⟨?hw101, ?hy101⟩) (by assumption) ?rest101
            case hi101 => simp only [List.getElem?_toArray, List.getElem?_cons_succ, List.getElem?_cons_zero]; rfl
            case hf101 => kernel_rfl
            case hr101 => kernel_rfl
            case hw101 => rfl
            case hy101 => (intro w hSw; (try dsimp only at hSw); go_simp; all_goals (first | done | with_reducible rfl))
            case hQ101 => exact fun _ _ _ h => h
            simp only [Act.put, List.setIfInBounds_toArray, List.set_cons_zero, List.set_cons_succ]
            refine wpAnyH_take (i := 1) (oi := ?oi102) (v := ?v102) ?hi102 (by kernel_rfl) ?hf102 ?hr102 ?hQ102 (Or.inl ⟨?hw102, ?hy102⟩) (by assumption) ?rest102
            case hi102 => simp only [List.getElem?_toArray, List.getElem?_cons_succ, List.getElem?_cons_zero]; rfl
            case hf102 => kernel_rfl
            case hr102 => kernel_rfl
            case hw102 => rfl
            case hy102 => (intro w hSw; (try dsimp only at hSw); go_simp; all_goals (first | done | with_reducible rfl))
            case hQ102 => exact fun _ _ _ h => h
            simp only [Act.put, List.setIfInBounds_toArray, List.set_cons_zero, List.set_cons_succ]
            refine wpAnyH_take (i := 2) (oi := ?oi103) (v := ?v103) ?hi103 (by kernel_rfl) ?hf103 ?hr103 ?hQ103 (Or.inl ⟨?hw103, ?hy103⟩) (by assumption) ?rest103
            case hi103 => simp only [List.getElem?_toArray, List.getElem?_cons_succ, List.getElem?_cons_zero]; rfl
            case hf103 => kernel_rfl
            case hr103 => kernel_rfl
            case hw103 => rfl
            case hy103 => (intro w hSw; (try dsimp only at hSw); go_simp; all_goals (first | done | with_reducible rfl))
            case hQ103 => exact fun _ _ _ h => h
            simp only [Act.put, List.setIfInBounds_toArray, List.set_cons_zero, List.set_cons_succ]
            refine wpAnyH_take (i := 3) (oi := ?oi104) (v := ?v104) ?hi104 (by kernel_rfl) ?hf104 ?hr104 ?hQ104 (Or.inl ⟨?hw104, ?hy104⟩) (by assumption) ?rest104
            case hi104 => simp only [List.getElem?_toArray, List.getElem?_cons_succ, List.getElem?_cons_zero]; rfl
            case hf104 => kernel_rfl
            case hr104 => kernel_rfl
            case hw104 => rfl
            case hy104 => (intro w hSw; (try dsimp only at hSw); go_simp; all_goals (first | done | with_reducible rfl))
            case hQ104 => exact fun _ _ _ h => h
            simp only [Act.put, List.setIfInBounds_toArray, List.set_cons_zero, List.set_cons_succ]
            refine wpAnyH_take (i := 4) (oi := ?oi105) (v := ?v105) ?hi105 (by kernel_rfl) ?hf105 ?hr105 ?hQ105 (Or.inl ⟨?hw105, ?hy105⟩) (by assumption) ?rest105
            case hi105 => simp only [List.getElem?_toArray, List.getElem?_cons_succ, List.getElem?_cons_zero]; rfl
            case hf105 => kernel_rfl
            case hr105 => kernel_rfl
            case hw105 => rfl
            case hy105 => (intro w hSw; (try dsimp only at hSw); go_simp; all_goals (first | done | with_reducible rfl))
            case hQ105 => exact fun _ _ _ h => h
            simp only [Act.put, List.setIfInBounds_toArray, List.set_cons_zero, List.set_cons_succ]
            refine wpAnyH_take (i := 5) (oi := ?oi106) (v := ?v106) ?hi106 (by kernel_rfl) ?hf106 ?hr106 ?hQ106 (Or.inl ⟨?hw106, ?hy106⟩) (by assumption) ?rest106
            case hi106 => simp only [List.getElem?_toArray, List.getElem?_cons_succ, List.getElem?_cons_zero]; rfl
            case hf106 => kernel_rfl
            case hr106 => kernel_rfl
            case hw106 => rfl
            case hy106 => (intro w hSw; (try dsimp only at hSw); go_simp; all_goals (first | done | with_reducible rfl))
            case hQ106 => exact fun _ _ _ h => h
            simp only [Act.put, List.setIfInBounds_toArray, List.set_cons_zero, List.set_cons_succ]
            refine wpAnyH_ready (rs := [6]) (by kernel_rfl) (by simp) ?_
            refine AllReadyH.cons (o := ?oi107) ?hi107 (fun K hK => ?step107) AllReadyH.nil
            case hi107 => simp only [List.getElem?_toArray, List.getElem?_cons_succ, List.getElem?_cons_zero]; rfl
            rw [if_pos (by rfl)]
            go_simp
            go_at_call 10
            refine (C3.out).mono ?_
            rintro e w27 ⟨v27, rfl, ho27, hb⟩
            obtain ⟨A27, c27, rfl, hc27, hm27⟩ := (Sl.of_own ho27).form
            have HW27 := hid (HWd.out.trans (hb.mono HWd.out.size))
            have HV27 := hid (HVd.out.trans (hb.mono HVd.out.size))
            have HU27 := hid (HUd.out.trans (hb.mono HUd.out.size))
            have s7 : w27.cell? ⟨bb, 0, none⟩ = some (.slice A1 n1 k1) ∧ w27.cell? ⟨bb, 1, none⟩ = some (.slice A2 n2 k2) ∧ w27.cell? ⟨bb, 2, none⟩ = some (.int .i64 q) := ⟨((KB.out.to HW27.out).2 0 _ rfl).1, ((KB.out.to HW27.out).2 1 _ rfl).1, ((KB.out.to HW27.out).2 2 _ rfl).1⟩
            have c7 : w27.cell? ⟨g9, k, none⟩ = some (.string sy) := (hb.cell (p := ⟨g9, k, none⟩) (World.block_lt_of_cell? _ _ cy)).trans cy
            clear hb ho27
            generalize hcn : (branchT L H q sy.data.toList).length = cn at *
            have qw : IntKind.i64.wrap ((m : Int) + (cn : Int)) = (m : Int) + (cn : Int) := by rw [IntKind.wrap_i64]; omega
            replace hcn := hid hcn
            refine hK.out _ _ ⟨s7, c7⟩ (fun hS => ?_)
            refine wpAnyH_take (i := 7) (oi := ?oi108) (v := ?v108) ?hi108 (by kernel_rfl) ?hf108 ?hr108 ?hQ108 (Or.inl ⟨?hw108, ?hy108⟩) (by assumption) ?rest108
            case hi108 => simp only [List.getElem?_toArray, List.getElem?_cons_succ, List.getElem?_cons_zero]; rfl
            case hf108 => kernel_rfl
            case hr108 => kernel_rfl
            case hw108 => rfl
            case hy108 => (intro w hSw; (try dsimp only at hSw); go_simp; all_goals (first | done | with_reducible rfl))
            case hQ108 => exact fun _ _ _ h => h
            simp only [Act.put, List.setIfInBounds_toArray, List.set_cons_zero, List.set_cons_succ]
            refine wpAnyH_take (i := 8) (oi := ?oi109) (v := ?v109) ?hi109 (by kernel_rfl) ?hf109 ?hr109 ?hQ109 (Or.inl ⟨?hw109, ?hy109⟩) (by assumption) ?rest109
            case hi109 => simp only [List.getElem?_toArray, List.getElem?_cons_succ, List.getElem?_cons_zero]; rfl
            case hf109 => kernel_rfl
            case hr109 => kernel_rfl
            case hw109 => rfl
            case hy109 => (intro w hSw; (try dsimp only at hSw); go_simp; all_goals (first | done | with_reducible rfl))
            case hQ109 => exact fun _ _ _ h => h
            simp only [Act.put, List.setIfInBounds_toArray, List.set_cons_zero, List.set_cons_succ]
            refine wpAnyH_take (i := 9) (oi := ?oi110) (v := ?v110) ?hi110 (by kernel_rfl) ?hf110 ?hr110 ?hQ110 (Or.inl ⟨?hw110, ?hy110⟩) (by assumption) ?rest110
            case hi110 => simp only [List.getElem?_toArray, List.getElem?_cons_succ, List.getElem?_cons_zero]; rfl
            case hf110 => kernel_rfl
            case hr110 => kernel_rfl
            case hw110 => rfl
            case hy110 => (intro w hSw; (try dsimp only at hSw); go_simp; all_goals (first | done | with_reducible rfl))
            case hQ110 => exact fun _ _ _ h => h
            simp only [Act.put, List.setIfInBounds_toArray, List.set_cons_zero, List.set_cons_succ]
            refine wpAnyH_done (by kernel_rfl) ?_ _
            clear d0 d1 d2 cy c7 s7
            go_wp2_with fail
            go_roundw
            case rel => exact ⟨k + 1, m + cn, by go_num, by go_num, by omega, by omega, (by show m + cn = _; have h9 := HS.out; have h8 : m = _ := HM.out; rw [h9, h8]; omega), HW27.out, HV27.out, HU27.out⟩
            case measure => simp [intOf]; omega
          · obtain rfl : n3 = m := by
              have h9 := FS.out
              have h8 : m = _ := HM.out
              rw [List.take_of_length_le (by have := hn9.out; omega)] at h8
              have h7 := hn3.out
              omega
            go_wp2_with fail
            clear HM
            go_loopw [9] (fun iv wr => ∃ (j : Nat), iv = .int .i64 j ∧ j ≤ n3 ∧ Hid (Below w2.heap.size w2 wr) ∧ Hid (Below w3.heap.size w3 wr)) (fun iv _ => n3 - (intOf iv).toNat)
            case atStart => exact ⟨0, rfl, Nat.zero_le _, HWr.out, HVr.out⟩
            case round =>
              obtain ⟨j, rfl, hjm, HWs, HVs⟩ := hrel
              by_cases hjn : j < n3
              · have d0 := ((KB.out.to HWs.out).2 0 _ rfl).1
                have d1 := ((KB.out.to HWs.out).2 1 _ rfl).1
                have d2 := ((KB.out.to HWs.out).2 2 _ rfl).1
                obtain ⟨y, hy⟩ : ∃ y, P[j]? = some y := ⟨_, List.getElem?_eq_getElem (by have := hn3.out; omega)⟩
                obtain ⟨sy, hsy1, hsy2⟩ : ∃ sy : ByteArray, txt y = .string sy ∧ sy.data.toList = y := ⟨⟨y.toArray⟩, rfl, by simp⟩
                obtain ⟨g3, rfl, hg3⟩ := own_some O3.out (by omega)
                have cy : wr.cell? ⟨g3, j, none⟩ = some (.string sy) := by
                  have h9 := O3.out.cellAt j (by omega)
                  rw [List.getElem?_map, hy] at h9
                  rw [← hsy1]
                  exact (HVs.out.cell (p := ⟨g3, j, none⟩) (O3.out.lt g3 rfl).2).trans h9
                have hpf := FP.out y (List.mem_of_getElem? hy)
                have C4 := hid (CP.out sy (by rw [Lib.size_eq, hsy2]; omega))
                have HPm := hid (show decide (nm.data.toList ∈ pathT L H q sy.data.toList) = true by rw [hsy2]; exact decide_eq_true hpf.1)
                have s0 : (0 : Int) ≤ (j : Int) := by omega
                have s1 : (j : Int) < (n3 : Int) := by omega
                have s2 : ((j : Int)).toNat = j := by simp
                have HWd := hid (HWs.out.drew)
                have HVd := hid (HVs.out.drew)
                clear hy hsy1 hsy2 hpf
                generalize pathT L H q sy.data.toList = Q at *
                go_wp2_with fail
                refine wp_region_held_drew (S := (fun w' : World => (w'.cell? ⟨bb, 0, none⟩ = some (.slice A1 n1 k1) ∧ w'.cell? ⟨bb, 1, none⟩ = some (.slice A2 n2 k2) ∧ w'.cell? ⟨bb, 2, none⟩ = some (.int .i64 q)) ∧ w'.cell? ⟨g3, j, none⟩ = some (.string sy))) (by kernel_rfl) ⟨⟨d0, d1, d2⟩, cy⟩ (fun hS => ?_)
                refine wpAnyH_take (i := 0) (oi := ?oi111) (v := ?v111) ?hi111 (by kernel_rfl) ?hf111 ?hr111 ?hQ111 (Or.inl ⟨?hw111, ?hy111⟩) (by assumption) ?rest111
                case hi111 => simp only [List.getElem?_toArray, List.getElem?_cons_succ, List.getElem?_cons_zero]; rfl
                case hf111 => kernel_rfl
                case hr111 => kernel_rfl
                case hw111 => rfl
                case hy111 => (intro w hSw; (try dsimp only at hSw); go_simp; all_goals (first | done | with_reducible rfl))
                case hQ111 => exact fun _ _ _ h => h
                simp only [Act.put, List.setIfInBounds_toArray, List.set_cons_zero, List.set_cons_succ]
                refine wpAnyH_take (i := 1) (oi := ?oi112) (v := ?v112) ?hi112 (by kernel_rfl) ?hf112 ?hr112 ?hQ112 (Or.inl ⟨?hw112, ?hy112⟩) (by assumption) ?rest112
                case hi112 => simp only [List.getElem?_toArray, List.getElem?_cons_succ, List.getElem?_cons_zero]; rfl
                case hf112 => kernel_rfl
                case hr112 => kernel_rfl
                case hw112 => rfl
                case hy112 => (intro w hSw; (try dsimp only at hSw); go_simp; all_goals (first | done | with_reducible rfl))
                case hQ112 => exact fun _ _ _ h => h
                simp only [Act.put, List.setIfInBounds_toArray, List.set_cons_zero, List.set_cons_succ]
                refine wpAnyH_take (i := 2) (oi := ?oi113) (v := ?v113) ?hi113 (by kernel_rfl) ?hf113 ?hr113 ?hQ113 (Or.inl ⟨?hw113, ?hy113⟩) (by assumption) ?rest113
                case hi113 => simp only [List.getElem?_toArray, List.getElem?_cons_succ, List.getElem?_cons_zero]; rfl
                case hf113 => kernel_rfl
                case hr113 => kernel_rfl
                case hw113 => rfl
                case hy113 => (intro w hSw; (try dsimp only at hSw); go_simp; all_goals (first | done | with_reducible rfl))
                case hQ113 => exact fun _ _ _ h => h
                simp only [Act.put, List.setIfInBounds_toArray, List.set_cons_zero, List.set_cons_succ]
                refine wpAnyH_take (i := 3) (oi := ?oi114) (v := ?v114) ?hi114 (by kernel_rfl) ?hf114 ?hr114 ?hQ114 (Or.inl ⟨?hw114, ?hy114⟩) (by assumption) ?rest114
                case hi114 => simp only [List.getElem?_toArray, List.getElem?_cons_succ, List.getElem?_cons_zero]; rfl
                case hf114 => kernel_rfl
                case hr114 => kernel_rfl
                case hw114 => rfl
                case hy114 => (intro w hSw; (try dsimp only at hSw); go_simp; all_goals (first | done | with_reducible rfl))
                case hQ114 => exact fun _ _ _ h => h
                simp only [Act.put, List.setIfInBounds_toArray, List.set_cons_zero, List.set_cons_succ]
                refine wpAnyH_take (i := 4) (oi := ?oi115) (v := ?v115) ?hi115 (by kernel_rfl) ?hf115 ?hr115 ?hQ115 (Or.inl ⟨?hw115, ?hy115⟩) (by assumption) ?rest115
                case hi115 => simp only [List.getElem?_toArray, List.getElem?_cons_succ, List.getElem?_cons_zero]; rfl
                case hf115 => kernel_rfl
                case hr115 => kernel_rfl
                case hw115 => rfl
                case hy115 => (intro w hSw; (try dsimp only at hSw); go_simp; all_goals (first | done | with_reducible rfl))
                case hQ115 => exact fun _ _ _ h => h
                simp only [Act.put, List.setIfInBounds_toArray, List.set_cons_zero, List.set_cons_succ]
                refine wpAnyH_take (i := 6) (oi := ?oi116) (v := ?v116) ?hi116 (by kernel_rfl) ?hf116 ?hr116 ?hQ116 (Or.inl ⟨?hw116, ?hy116⟩) (by assumption) ?rest116
                case hi116 => simp only [List.getElem?_toArray, List.getElem?_cons_succ, List.getElem?_cons_zero]; rfl
                case hf116 => kernel_rfl
                case hr116 => kernel_rfl
                case hw116 => rfl
                case hy116 => (intro w hSw; (try dsimp only at hSw); go_simp; all_goals (first | done | with_reducible rfl))
                case hQ116 => exact fun _ _ _ h => h
                simp only [Act.put, List.setIfInBounds_toArray, List.set_cons_zero, List.set_cons_succ]
                refine wpAnyH_ready (rs := [5]) (by kernel_rfl) (by simp) ?_
                refine AllReadyH.cons (o := ?oi117) ?hi117 (fun K hK => ?step117) AllReadyH.nil
                case hi117 => simp only [List.getElem?_toArray, List.getElem?_cons_succ, List.getElem?_cons_zero]; rfl
                rw [if_pos (by rfl)]
                go_simp
                go_at_call 18
                refine (C4.out _ HWd.out).mono ?_
                rintro e w28 ⟨v28, rfl, ho28, hb⟩
                obtain ⟨A28, c28, rfl, hc28, hm28⟩ := (Sl.of_own ho28).form
                have HW28 := hid (HWd.out.trans (hb.mono HWd.out.size))
                have HV28 := hid (HVd.out.trans (hb.mono HVd.out.size))
                have CH := hid (lawHasText_c _ Q.length w28.heap.size Q nm w28 (Sl.of_own ho28))
                rw [HPm.out] at CH
                have s28 : w28.cell? ⟨bb, 0, none⟩ = some (.slice A1 n1 k1) ∧ w28.cell? ⟨bb, 1, none⟩ = some (.slice A2 n2 k2) ∧ w28.cell? ⟨bb, 2, none⟩ = some (.int .i64 q) := ⟨((KB.out.to HW28.out).2 0 _ rfl).1, ((KB.out.to HW28.out).2 1 _ rfl).1, ((KB.out.to HW28.out).2 2 _ rfl).1⟩
                have c28' := (hb.cell (p := ⟨g3, j, none⟩) (World.block_lt_of_cell? _ _ cy)).trans cy
                clear hb ho28
                refine hK.out _ _ ⟨s28, c28'⟩ (fun hS => ?_)
                refine wpAnyH_ready (rs := [7]) (by kernel_rfl) (by simp) ?_
                refine AllReadyH.cons (o := ?oi118) ?hi118 (fun K hK => ?step118) AllReadyH.nil
                case hi118 => simp only [List.getElem?_toArray, List.getElem?_cons_succ, List.getElem?_cons_zero]; rfl
                rw [if_pos (by rfl)]
                go_simp
                go_at_call 16
                refine (CH.out).mono ?_
                rintro e w29 ⟨rfl, h9⟩
                obtain rfl := h9
                refine hK.out _ _ ⟨s28, c28'⟩ (fun hS => ?_)
                refine wpAnyH_take (i := 8) (oi := ?oi119) (v := ?v119) ?hi119 (by kernel_rfl) ?hf119 ?hr119 ?hQ119 (Or.inl ⟨?hw119, ?hy119⟩) (by assumption) ?rest119
                case hi119 => simp only [List.getElem?_toArray, List.getElem?_cons_succ, List.getElem?_cons_zero]; rfl
                case hf119 => kernel_rfl
                case hr119 => kernel_rfl
                case hw119 => rfl
                case hy119 => (intro w hSw; (try dsimp only at hSw); go_simp; all_goals (first | done | with_reducible rfl))
                case hQ119 => exact fun _ _ _ h => h
                simp only [Act.put, List.setIfInBounds_toArray, List.set_cons_zero, List.set_cons_succ]
                refine wpAnyH_done (by kernel_rfl) ?_ _
                clear cy d0 d1 d2 s28 c28'
                go_wp2_with fail
                go_roundw
                case rel => exact ⟨j + 1, by go_num, by omega, HW28.out, HV28.out⟩
                case measure => simp [intOf]; omega
              · have q3 : ((n3 : Int) == (n3 : Int)) = true := by simp
                go_wp2_with fail
                go_ret
                exact ⟨rfl, HB.out.trans (HWs.out.mono HB.out.size)⟩
end Go.Proofs.Ytcgcbgbmofooiaa
