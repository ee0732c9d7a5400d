/-
  WALK: the law FnPathOf. By gen_t.py.
-/
import Derived.Test.YteammkclbgniiaaE9
namespace Go.Proofs.Yteammkclbgniiaa
open Go.RowKit Nm
set_option linter.unusedSimpArgs false
set_option linter.unusedVariables false
theorem path_facts {L : List Lgr} {H : List Hnd} {q : Int} {x : Name} (h : treeOk L H q = true) (hx : nameOk x = true) :
    (pathT L H q x).length = L.countP (fun l => isB x l.nm) ∧ (∀ i a b, (pathT L H q x)[i]? = some a → (pathT L H q x)[i + 1]? = some b → ¬ a = b ∧ isB a b = true) ∧
    (pathT L H q x)[0]? = some (nearestT L H q x) ∧ (pathT L H q x)[(pathT L H q x).length - 1]? = some [] ∧ (∀ y ∈ pathT L H q x, y.length ≤ 100) ∧ 1 ≤ (pathT L H q x).length ∧ (pathT L H q x).length ≤ 5 := by
  obtain ⟨h0, hnd, hnm⟩ := tree_nm h
  have hlt := near_lt h0 x
  have e : pathT L H q x = (pathF (nsOf L) 4 (nearN (nsOf L) x)).map (fun i => (nsOf L).getD i []) := by unfold pathT pathN; rw [h, hx]; rfl
  have hd4 := depth_le hnm (nearN (nsOf L) x)
  have hin := pathF_lt h0 4 (nearN (nsOf L) x) hlt
  refine ⟨?_, ?_, ?_, ?_, ?_, ?_, ?_⟩
  · rw [e, List.length_map, path_count h0 hnd hnm 4 _ hlt hd4]
    unfold nsOf
    rw [List.countP_map]
    refine List.countP_congr fun l hl => ?_
    have hln : l.nm ∈ nsOf L := List.mem_map.2 ⟨l, hl, rfl⟩
    show belowL ((nsOf L).getD (nearN (nsOf L) x) []) l.nm = true ↔ isB x l.nm = true
    rw [← near_below h0 hln]
    unfold isB
    rw [hx, hnm _ hln]
    simp
  · intro i a b ha hb
    rw [e, List.getElem?_map] at ha hb
    cases hq : (pathF (nsOf L) 4 (nearN (nsOf L) x))[i + 1]? with
    | none => rw [hq] at hb; cases hb
    | some j =>
      obtain ⟨a', h1, h2, h3⟩ := path_step (nsOf L) 4 _ i j hq
      rw [hq] at hb
      rw [h1] at ha
      have ea : (nsOf L).getD a' [] = a := by simpa using ha
      have eb : (nsOf L).getD j [] = b := by simpa using hb
      have hal : a' < (nsOf L).length := hin a' (List.mem_of_getElem? h1)
      have hjl : j < (nsOf L).length := hin j (List.mem_of_getElem? hq)
      have hdu := depth_up h0 hnm hal h2
      subst h3
      have hna := hnm _ (getD_mem hal)
      have hnb := hnm _ (getD_mem hjl)
      refine ⟨fun hh => ?_, ?_⟩
      · rw [← ea, ← eb] at hh
        unfold depthN at hdu
        rw [hh] at hdu
        omega
      · unfold isB
        rw [← ea, ← eb, hna, hnb]
        have h7 : belowL (aboveL ((nsOf L).getD a' [])) ((nsOf L).getD (upN (nsOf L) a') []) = true := (best_spec h0 _ _ (Nat.le_refl _)).1
        have hne : (nsOf L).getD a' [] ≠ (nsOf L).getD (upN (nsOf L) a') [] := fun hh => by unfold depthN at hdu; rw [← hh] at hdu; omega
        rw [below_above hna hne] at h7
        rw [h7]; rfl
  · rw [e, List.getElem?_map, pathF_head]
    unfold nearestT
    rw [h, hx]; rfl
  · obtain ⟨r, h1, h2⟩ := path_last h0 hnm 4 _ hlt hd4
    rw [e, List.length_map, List.getElem?_map, h1]
    exact congrArg some h2
  · intro y hy
    rw [e] at hy
    obtain ⟨j, hj, rfl⟩ := List.mem_map.1 hy
    have := name_size _ (hnm _ (getD_mem (hin j hj)))
    omega
  · rw [e, List.length_map]; exact pathF_pos _ _ _
  · rw [e, List.length_map]; exact pathF_len _ _ _
set_option maxHeartbeats 8000000 in
set_option maxRecDepth 100000 in
theorem walk_FnPathOf (a0 : Option Addr) (len0 cap0 : Nat) (z0 : List Int) (w : World) (w0 : IsRow .u8 w a0 len0 cap0 z0) :
    Calls Try.prog 6 #[.slice a0 len0 cap0] w (BoolPost w true) := by
  have hb0 := w0.leT
  by_cases h1 : (1048576 : Int) < (len0 : Int)
  · go_enter Try.func6, Try.ntmps6
    go_wp2_with fail
    go_ret
    exact ⟨rfl, Below.refl _ _⟩
  have DR := hid (drawPathOf_c a0 len0 cap0 z0 w w0)
  clear w0
  go_enter Try.func6, Try.ntmps6
  go_wp2_with fail
  refine DR.out.mono ?_
  rintro e w1 ⟨v, rs, L, H, q, nm, rfl, hs, hsm, hnm, hr, hb⟩
  obtain ⟨A1, n1, k1, A2, n2, k2, rfl, hn1, hn2⟩ := hs.form_ hr
  have hd := sm_fit hsm (by omega)
  have TI0 := hs.at_ hr hd
  have hbx : Below w1.heap.size w1 (w1.alloc (.cells #[.slice A1 n1 k1, .slice A2 n2 k2, .int .i64 q] 26)) := (Below.refl _ _).alloc (Nat.le_refl _) _
  have TI := hid (TI0.below hbx (Nat.le_refl _))
  have KB := hid (Blk.new w1 #[.slice A1 n1 k1, .slice A2 n2 k2, .int .i64 q] 26)
  have HB := hid (hb.trans (hbx.mono hb.size))
  have hl1 : w1.heap.size < (w1.alloc (.cells #[.slice A1 n1 k1, .slice A2 n2 k2, .int .i64 q] 26)).heap.size := by simp
  have HL := hid (And.intro hn1 (And.intro hsm.1 hsm.2.1.1))
  replace hd := hid hd
  clear hs hr hb hn1 hn2 hsm TI0 hbx DR
  go_wp2_with fail
  generalize hbb : w1.heap.size = bb at *
  generalize w1.alloc (.cells #[.slice A1 n1 k1, .slice A2 n2 k2, .int .i64 q] 26) = w2 at *
  clear hbb
  have d0 := (KB.out.2 0 _ rfl).1
  have d1 := (KB.out.2 1 _ rfl).1
  have d2 := (KB.out.2 2 _ rfl).1
  have HW := hid (Below.refl w2.heap.size w2)
  have TT := hid (fun (W : World) (hW : Below w2.heap.size w2 W) => (And.intro (TI.out.below hW (Nat.le_of_lt hl1)) (Nat.le_trans (Nat.le_of_lt hl1) hW.size)))
  have CI := hid (fun (W : World) (hW : Below w2.heap.size w2 W) => implPathOf_c nm (TT.out W hW).1 (TT.out W hW).2 (by unfold maxLen; omega))
  have CS := hid (fun (W : World) (hW : Below w2.heap.size w2 W) => specPathOf_c nm (TT.out W hW).1 (TT.out W hW).2 (by unfold maxTxt; omega))
  have CT := hid (fun (W : World) (hW : Below w2.heap.size w2 W) => implValidTreeX_c (TT.out W hW).1 (TT.out W hW).2)
  have CN := hid (fun (W : World) (hW : Below w2.heap.size w2 W) => implValidName_c nm W (by unfold maxLen; omega))
  have CX := hid (fun (W : World) (hW : Below w2.heap.size w2 W) => implNearestTo_c nm (TT.out W hW).1 (TT.out W hW).2 (by unfold maxLen; omega))
  have FX := hid (fun (h : treeOk L H q = true) (hn : nameOk nm.data.toList = true) => path_facts h hn)
  have hn8 : n1 ≤ 8 := by rw [HL.out.1]; exact HL.out.2.2
  have hN1 := HL.out.1
  replace hN1 := hid hN1
  generalize hP : pathT L H q nm.data.toList = P at *
  generalize hok : treeOk L H q = ok at *
  generalize hnok : nameOk nm.data.toList = nok at *
  replace hok := hid hok
  replace hnok := hid hnok
  clear hP
  go_wp2_with fail
  refine (CI.out _ HW.out).mono ?_
  rintro e w3 ⟨v3, rfl, ho3, hb⟩
  obtain ⟨A3, c3, rfl, hc3, hm3⟩ := (Sl.of_own ho3).form
  have HW3 := hid (HW.out.trans (hb.mono HW.out.size))
  generalize hn3 : P.length = n3 at *
  have O3 := hid ho3
  have HV3 := hid (Below.refl w3.heap.size w3)
  replace hn3 := hid hn3
  clear hb ho3 d0 d1 d2
  obtain ⟨⟨d0, _⟩, ⟨d1, _⟩, ⟨d2, _⟩⟩ := (And.intro ((KB.out.to HW3.out).2 0 _ rfl) (And.intro ((KB.out.to HW3.out).2 1 _ rfl) ((KB.out.to HW3.out).2 2 _ rfl)))
  go_wp2_with fail
  refine (CS.out _ HW3.out).mono ?_
  rintro e w4 ⟨v4, rfl, ho4, hb⟩
  obtain ⟨A4, c4, rfl, hc4, hm4⟩ := (Sl.of_own ho4).form
  have CQ := hid (equalTexts_c _ _ _ _ w4.heap.size P P w4 (((Sl.of_own O3.out).below hb (Nat.le_refl _)).more hb.size) (Sl.of_own ho4) (Nat.le_refl _))
  clear ho4
  clear d0 d1 d2
  have HW4 := hid (HW3.out.trans (hb.mono HW3.out.size))
  have HV4 := hid (HV3.out.trans (hb.mono HV3.out.size))
  clear hb
  obtain ⟨⟨d0, _⟩, ⟨d1, _⟩, ⟨d2, _⟩⟩ := (And.intro ((KB.out.to HW4.out).2 0 _ rfl) (And.intro ((KB.out.to HW4.out).2 1 _ rfl) ((KB.out.to HW4.out).2 2 _ rfl)))
  go_wp2_with fail
  refine CQ.out.mono ?_
  rintro e w5 ⟨rfl, hb⟩
  simp only [decide_true]
  clear d0 d1 d2
  have HW5 := hid (HW4.out.trans (hb.mono HW4.out.size))
  have HV5 := hid (HV4.out.trans (hb.mono HV4.out.size))
  clear hb
  obtain ⟨⟨d0, _⟩, ⟨d1, _⟩, ⟨d2, _⟩⟩ := (And.intro ((KB.out.to HW5.out).2 0 _ rfl) (And.intro ((KB.out.to HW5.out).2 1 _ rfl) ((KB.out.to HW5.out).2 2 _ rfl)))
  go_wp2_with fail
  refine (CT.out _ HW5.out).mono ?_
  rintro e w6 ⟨rfl, hb⟩
  clear d0 d1 d2
  have HW6 := hid (HW5.out.trans (hb.mono HW5.out.size))
  have HV6 := hid (HV5.out.trans (hb.mono HV5.out.size))
  clear hb
  obtain ⟨⟨d0, _⟩, ⟨d1, _⟩, ⟨d2, _⟩⟩ := (And.intro ((KB.out.to HW6.out).2 0 _ rfl) (And.intro ((KB.out.to HW6.out).2 1 _ rfl) ((KB.out.to HW6.out).2 2 _ rfl)))
  have BAD := hid (fun (u : Unit) => CQ)
  cases ok with
  | false =>
    go_wp2_with fail
    refine (CS.out _ HW6.out).mono ?_
    rintro e w7 ⟨v7, rfl, ho7, hb⟩
    obtain ⟨A7, c7, rfl, hc7, hm7⟩ := (Sl.of_own ho7).form
    have CQ7 := hid (equalTexts_c _ _ _ _ w7.heap.size P P w7 ((((Sl.of_own O3.out).below HV6.out (Nat.le_refl _)).more HV6.out.size).below hb (Nat.le_refl _) |>.more hb.size) (Sl.of_own ho7) (Nat.le_refl _))
    clear ho7
    clear d0 d1 d2
    have HW7 := hid (HW6.out.trans (hb.mono HW6.out.size))
    have HV7 := hid (HV6.out.trans (hb.mono HV6.out.size))
    clear hb
    obtain ⟨⟨d0, _⟩, ⟨d1, _⟩, ⟨d2, _⟩⟩ := (And.intro ((KB.out.to HW7.out).2 0 _ rfl) (And.intro ((KB.out.to HW7.out).2 1 _ rfl) ((KB.out.to HW7.out).2 2 _ rfl)))
    go_wp2_with fail
    refine CQ7.out.mono ?_
    rintro e w8 ⟨rfl, hb⟩
    simp only [decide_true]
    clear d0 d1 d2
    have HW8 := hid (HW7.out.trans (hb.mono HW7.out.size))
    have HV8 := hid (HV7.out.trans (hb.mono HV7.out.size))
    clear hb
    obtain ⟨⟨d0, _⟩, ⟨d1, _⟩, ⟨d2, _⟩⟩ := (And.intro ((KB.out.to HW8.out).2 0 _ rfl) (And.intro ((KB.out.to HW8.out).2 1 _ rfl) ((KB.out.to HW8.out).2 2 _ rfl)))
    go_wp2_with fail
    go_ret
    exact ⟨rfl, HB.out.trans (HW8.out.mono HB.out.size)⟩
  | true =>
    go_wp2_with fail
    refine (CN.out _ HW6.out).mono ?_
    rintro e w16 ⟨rfl, hb⟩
    clear d0 d1 d2
    have HW16 := hid (HW6.out.trans (hb.mono HW6.out.size))
    have HV16 := hid (HV6.out.trans (hb.mono HV6.out.size))
    clear hb
    obtain ⟨⟨d0, _⟩, ⟨d1, _⟩, ⟨d2, _⟩⟩ := (And.intro ((KB.out.to HW16.out).2 0 _ rfl) (And.intro ((KB.out.to HW16.out).2 1 _ rfl) ((KB.out.to HW16.out).2 2 _ rfl)))
    cases nok with
    | false =>
      go_wp2_with fail
      refine (CS.out _ HW16.out).mono ?_
      rintro e w7 ⟨v7, rfl, ho7, hb⟩
      obtain ⟨A7, c7, rfl, hc7, hm7⟩ := (Sl.of_own ho7).form
      have CQ7 := hid (equalTexts_c _ _ _ _ w7.heap.size P P w7 ((((Sl.of_own O3.out).below HV16.out (Nat.le_refl _)).more HV16.out.size).below hb (Nat.le_refl _) |>.more hb.size) (Sl.of_own ho7) (Nat.le_refl _))
      clear ho7
      clear d0 d1 d2
      have HW7 := hid (HW16.out.trans (hb.mono HW16.out.size))
      have HV7 := hid (HV16.out.trans (hb.mono HV16.out.size))
      clear hb
      obtain ⟨⟨d0, _⟩, ⟨d1, _⟩, ⟨d2, _⟩⟩ := (And.intro ((KB.out.to HW7.out).2 0 _ rfl) (And.intro ((KB.out.to HW7.out).2 1 _ rfl) ((KB.out.to HW7.out).2 2 _ rfl)))
      go_wp2_with fail
      refine CQ7.out.mono ?_
      rintro e w8 ⟨rfl, hb⟩
      simp only [decide_true]
      clear d0 d1 d2
      have HW8 := hid (HW7.out.trans (hb.mono HW7.out.size))
      have HV8 := hid (HV7.out.trans (hb.mono HV7.out.size))
      clear hb
      obtain ⟨⟨d0, _⟩, ⟨d1, _⟩, ⟨d2, _⟩⟩ := (And.intro ((KB.out.to HW8.out).2 0 _ rfl) (And.intro ((KB.out.to HW8.out).2 1 _ rfl) ((KB.out.to HW8.out).2 2 _ rfl)))
      go_wp2_with fail
      go_ret
      exact ⟨rfl, HB.out.trans (HW8.out.mono HB.out.size)⟩
    | true =>
      obtain ⟨F1, F2, F3, F4, F5, F6, F7⟩ := FX.out (by trivial) (by trivial)
      have ht3 : ∀ (i : Nat) (y : List UInt8), P[i]? = some y → ∀ (W : World), Below w3.heap.size w3 W → ∀ g3, A3 = some ⟨g3, 0, none⟩ → W.cell? ⟨g3, i, none⟩ = some (txt y) := by
        intro i y hy W hW g3 hg
        subst hg
        have hi : i < n3 := by rw [← hn3.out]; exact (List.getElem?_eq_some_iff.1 hy).1
        have h9 := O3.out.cellAt i (by omega)
        rw [List.getElem?_map, hy] at h9
        exact (hW.cell (p := ⟨g3, i, none⟩) (O3.out.lt g3 rfl).2).trans h9
      obtain ⟨g3, rfl, hg3⟩ := own_some O3.out (by omega)
      have HC := hid (fun (i : Nat) (y : List UInt8) (hy : P[i]? = some y) (W : World) (hW : Below w3.heap.size w3 W) => ht3 i y hy W hW g3 rfl)
      replace F1 := hid F1
      replace F2 := hid F2
      replace F3 := hid F3
      replace F4 := hid F4
      replace F5 := hid F5
      clear ht3 d0 d1 d2 CQ BAD
      have d0 := ((KB.out.to HW16.out).2 0 _ rfl).1
      go_wp2_with fail
      go_loopw [6, 7] (fun nv kv wr => ∃ k m : Nat, nv = .int .i64 m ∧ kv = .int .i64 k ∧ k ≤ n1 ∧ m ≤ k ∧ Hid (m = (L.take k).countP (fun l => isB nm.data.toList l.nm)) ∧ Hid (Below w2.heap.size w2 wr) ∧ Hid (Below w3.heap.size w3 wr)) (fun _ kv _ => n1 - (intOf kv).toNat)
      case atStart => exact ⟨0, 0, rfl, rfl, Nat.zero_le _, Nat.le_refl _, rfl, HW16.out, HV16.out⟩
      case round =>
        obtain ⟨k, m, rfl, rfl, hk, hmk, HM, HWr, HVr⟩ := hrel
        clear d0
        have d0 := ((KB.out.to HWr.out).2 0 _ rfl).1
        by_cases hkn : k < n1
        · obtain ⟨b, o, x, s, rfl, hbB, hx, hsx, hsz, c0, _⟩ := (TT.out _ HWr.out).1.name hkn
          have hsz2 : s.size ≤ 1048576 := hsz
          have C3 := hid (implIsBelow_c nm s wr (by omega) hsz2)
          have s0 : (0 : Int) ≤ (k : Int) := by omega
          have s1 : (k : Int) < (n1 : Int) := by omega
          have s2 : ((k : Int)).toNat = k := by simp
          have HS := hid (show (L.take (k + 1)).countP (fun l => isB nm.data.toList l.nm) = (L.take k).countP (fun l => isB nm.data.toList l.nm) + (if isB nm.data.toList s.data.toList = true then 1 else 0) by rw [List.take_add_one, hx, List.countP_append, hsx]; simp [List.countP_cons])
          clear hx hsx
          generalize isB nm.data.toList s.data.toList = bl at *
          go_wp2_with fail
          refine C3.out.mono ?_
          rintro e w27 ⟨rfl, hb⟩
          have HW27 := hid (HWr.out.trans (hb.mono HWr.out.size))
          have HV27 := hid (HVr.out.trans (hb.mono HVr.out.size))
          clear hb d0 c0
          cases bl with
          | false =>
            go_wp2_with fail
            go_roundw
            case rel => exact ⟨k + 1, m, rfl, by go_num, by omega, by omega, (by show m = _; have := HS.out; rw [this]; simpa using HM.out), HW27.out, HV27.out⟩
            case measure => simp [intOf]; omega
          | true =>
            go_wp2_with fail
            go_roundw
            case rel => exact ⟨k + 1, m + 1, by go_num, by go_num, by omega, by omega, (by show m + 1 = _; have := HS.out; rw [this, ← HM.out]; simp), HW27.out, HV27.out⟩
            case measure => simp [intOf]; omega
        · have hmn : m = n3 := by
            rw [F1.out, HM.out, List.take_of_length_le (by rw [← hN1.out]; omega)]
          subst hmn
          clear HM
          go_wp2_with fail
          clear d0
          go_loopw [8] (fun iv wr => ∃ j : Nat, iv = .int .i64 j ∧ 1 ≤ j ∧ j ≤ m ∧ Hid (Below w2.heap.size w2 wr) ∧ Hid (Below w3.heap.size w3 wr)) (fun iv _ => m - (intOf iv).toNat)
          case atStart => exact ⟨1, rfl, Nat.le_refl _, F6, HWr.out, HVr.out⟩
          case round =>
            obtain ⟨j, rfl, hj1, hjm, HWs, HVs⟩ := hrel
            by_cases hjn : j < m
            · obtain ⟨a, ha⟩ : ∃ a, P[j - 1]? = some a := ⟨_, List.getElem?_eq_getElem (by have := hn3.out; omega)⟩
              obtain ⟨b, hb⟩ : ∃ b, P[j]? = some b := ⟨_, List.getElem?_eq_getElem (by have := hn3.out; omega)⟩
              obtain ⟨f1, f2⟩ := F2.out (j - 1) a b ha (by rw [Nat.sub_add_cancel hj1]; exact hb)
              have za := F5.out a (List.mem_of_getElem? ha)
              have zb := F5.out b (List.mem_of_getElem? hb)
              obtain ⟨sa, hsa1, hsa2⟩ : ∃ sa : ByteArray, txt a = .string sa ∧ sa.data.toList = a := ⟨⟨a.toArray⟩, rfl, by simp⟩
              obtain ⟨sb, hsb1, hsb2⟩ : ∃ sb : ByteArray, txt b = .string sb ∧ sb.data.toList = b := ⟨⟨b.toArray⟩, rfl, by simp⟩
              have ca := HC.out (j - 1) a ha wr HVs.out
              have cb := HC.out j b hb wr HVs.out
              rw [hsa1] at ca
              rw [hsb1] at cb
              have CB := hid (fun (W : World) => (show Calls Try.prog 21 #[.string sa, .string sb] W (BoolPost W true) by have h9 := implIsBelow_c sa sb W (by rw [Lib.size_eq, hsa2]; omega) (by rw [Lib.size_eq, hsb2]; omega); rw [hsa2, hsb2, f2] at h9; exact h9))
              have e1 := eq_false_of (a := sa) (b := sb) (by rw [hsa2, hsb2]; exact f1)
              have q1 : IntKind.i64.wrap ((j : Int) - 1) = (j : Int) - 1 := by rw [IntKind.wrap_i64]; omega
              have q2 : (0 : Int) ≤ (j : Int) - 1 := by omega
              have q3 : ((j : Int) - 1).toNat = j - 1 := by omega
              have q4 : (j : Int) - 1 < (m : Int) := by omega
              have q5 : j - 1 < m := by omega
              have q7 : (1 : Int) ≤ (j : Int) := by omega
              have hgw : g3 < wr.heap.size := Nat.lt_of_lt_of_le hg3 HVs.out.size
              clear ha hb f1 f2 hsa1 hsa2 hsb1 hsb2 za zb
              go_wp2_with fail
              refine wp_region_held_drew (S := (fun w' : World => w'.cell? ⟨g3, j - 1, none⟩ = some (.string sa) ∧ w'.cell? ⟨g3, j, none⟩ = some (.string sb))) (by kernel_rfl) ⟨ca, cb⟩ (fun hS => ?_)
              refine wpAnyH_take (i := 0) (oi := ?oi101) (v := ?v101) ?hi101 (by kernel_rfl) ?hf101 ?hr101 ?hQ101 (Or.inl ⟨?hw101, ?hy101⟩) (by assumption) ?rest101
              case hi101 => simp only [List.getElem?_toArray, List.getElem?_cons_succ, List.getElem?_cons_zero]; rfl
              case hf101 => kernel_rfl
              case hr101 => kernel_rfl
              case hw101 => rfl
              case hy101 => (intro w hSw; (try dsimp only at hSw); go_simp; all_goals (first | done | with_reducible rfl))
              case hQ101 => exact fun _ _ _ h => h
              simp only [Act.put, List.setIfInBounds_toArray, List.set_cons_zero, List.set_cons_succ]
              refine wpAnyH_take (i := 1) (oi := ?oi102) (v := ?v102) ?hi102 (by kernel_rfl) ?hf102 ?hr102 ?hQ102 (Or.inl ⟨?hw102, ?hy102⟩) (by assumption) ?rest102
              case hi102 => simp only [List.getElem?_toArray, List.getElem?_cons_succ, List.getElem?_cons_zero]; rfl
              case hf102 => kernel_rfl
              case hr102 => kernel_rfl
              case hw102 => rfl
              case hy102 => (intro w hSw; (try dsimp only at hSw); go_simp; all_goals (first | done | with_reducible rfl))
              case hQ102 => exact fun _ _ _ h => h
              simp only [Act.put, List.setIfInBounds_toArray, List.set_cons_zero, List.set_cons_succ]
              refine wpAnyH_take (i := 2) (oi := ?oi103) (v := ?v103) ?hi103 (by kernel_rfl) ?hf103 ?hr103 ?hQ103 (Or.inl ⟨?hw103, ?hy103⟩) (by assumption) ?rest103
              case hi103 => simp only [List.getElem?_toArray, List.getElem?_cons_succ, List.getElem?_cons_zero]; rfl
              case hf103 => kernel_rfl
              case hr103 => kernel_rfl
              case hw103 => rfl
              case hy103 => (intro w hSw; (try dsimp only at hSw); go_simp; all_goals (first | done | with_reducible rfl))
              case hQ103 => exact fun _ _ _ h => h
              simp only [Act.put, List.setIfInBounds_toArray, List.set_cons_zero, List.set_cons_succ]
              refine wpAnyH_take (i := 3) (oi := ?oi104) (v := ?v104) ?hi104 (by kernel_rfl) ?hf104 ?hr104 ?hQ104 (Or.inl ⟨?hw104, ?hy104⟩) (by assumption) ?rest104
              case hi104 => simp only [List.getElem?_toArray, List.getElem?_cons_succ, List.getElem?_cons_zero]; rfl
              case hf104 => kernel_rfl
              case hr104 => kernel_rfl
              case hw104 => rfl
              case hy104 => (intro w hSw; (try dsimp only at hSw); go_simp; all_goals (first | done | with_reducible rfl))
              case hQ104 => exact fun _ _ _ h => h
              simp only [Act.put, List.setIfInBounds_toArray, List.set_cons_zero, List.set_cons_succ]
              refine wpAnyH_take (i := 4) (oi := ?oi105) (v := ?v105) ?hi105 (by kernel_rfl) ?hf105 ?hr105 ?hQ105 (Or.inl ⟨?hw105, ?hy105⟩) (by assumption) ?rest105
              case hi105 => simp only [List.getElem?_toArray, List.getElem?_cons_succ, List.getElem?_cons_zero]; rfl
              case hf105 => kernel_rfl
              case hr105 => kernel_rfl
              case hw105 => rfl
              case hy105 => (intro w hSw; (try dsimp only at hSw); go_simp; all_goals (first | done | with_reducible rfl))
              case hQ105 => exact fun _ _ _ h => h
              simp only [Act.put, List.setIfInBounds_toArray, List.set_cons_zero, List.set_cons_succ]
              refine wpAnyH_take (i := 5) (oi := ?oi106) (v := ?v106) ?hi106 (by kernel_rfl) ?hf106 ?hr106 ?hQ106 (Or.inl ⟨?hw106, ?hy106⟩) (by assumption) ?rest106
              case hi106 => simp only [List.getElem?_toArray, List.getElem?_cons_succ, List.getElem?_cons_zero]; rfl
              case hf106 => kernel_rfl
              case hr106 => kernel_rfl
              case hw106 => rfl
              case hy106 => (intro w hSw; (try dsimp only at hSw); go_simp; all_goals (first | done | with_reducible rfl))
              case hQ106 => exact fun _ _ _ h => h
              simp only [Act.put, List.setIfInBounds_toArray, List.set_cons_zero, List.set_cons_succ]
              refine wpAnyH_take (i := 6) (oi := ?oi107) (v := ?v107) ?hi107 (by kernel_rfl) ?hf107 ?hr107 ?hQ107 (Or.inl ⟨?hw107, ?hy107⟩) (by assumption) ?rest107
              case hi107 => simp only [List.getElem?_toArray, List.getElem?_cons_succ, List.getElem?_cons_zero]; rfl
              case hf107 => kernel_rfl
              case hr107 => kernel_rfl
              case hw107 => rfl
              case hy107 => (intro w hSw; (try dsimp only at hSw); go_simp; all_goals (first | done | with_reducible rfl))
              case hQ107 => exact fun _ _ _ h => h
              simp only [Act.put, List.setIfInBounds_toArray, List.set_cons_zero, List.set_cons_succ]
              refine wpAnyH_take (i := 7) (oi := ?oi108) (v := ?v108) ?hi108 (by kernel_rfl) ?hf108 ?hr108 ?hQ108 (Or.inl ⟨?hw108, ?hy108⟩) (by assumption) ?rest108
              case hi108 => simp only [List.getElem?_toArray, List.getElem?_cons_succ, List.getElem?_cons_zero]; rfl
              case hf108 => kernel_rfl
              case hr108 => kernel_rfl
              case hw108 => rfl
              case hy108 => (intro w hSw; (try dsimp only at hSw); go_simp; all_goals (first | done | with_reducible rfl))
              case hQ108 => exact fun _ _ _ h => h
              simp only [Act.put, List.setIfInBounds_toArray, List.set_cons_zero, List.set_cons_succ]
              refine wpAnyH_take (i := 8) (oi := ?oi109) (v := ?v109) ?hi109 (by kernel_rfl) ?hf109 ?hr109 ?hQ109 (Or.inl ⟨?hw109, ?hy109⟩) (by assumption) ?rest109
              case hi109 => simp only [List.getElem?_toArray, List.getElem?_cons_succ, List.getElem?_cons_zero]; rfl
              case hf109 => kernel_rfl
              case hr109 => kernel_rfl
              case hw109 => rfl
              case hy109 => (intro w hSw; (try dsimp only at hSw); go_simp; all_goals (first | done | with_reducible rfl))
              case hQ109 => exact fun _ _ _ h => h
              simp only [Act.put, List.setIfInBounds_toArray, List.set_cons_zero, List.set_cons_succ]
              refine wpAnyH_take (i := 9) (oi := ?oi110) (v := ?v110) ?hi110 (by kernel_rfl) ?hf110 ?hr110 ?hQ110 (Or.inl ⟨?hw110, ?hy110⟩) (by assumption) ?rest110
              case hi110 => simp only [List.getElem?_toArray, List.getElem?_cons_succ, List.getElem?_cons_zero]; rfl
              case hf110 => kernel_rfl
              case hr110 => kernel_rfl
              case hw110 => rfl
              case hy110 => (intro w hSw; (try dsimp only at hSw); go_simp; all_goals (first | done | with_reducible rfl))
              case hQ110 => exact fun _ _ _ h => h
              simp only [Act.put, List.setIfInBounds_toArray, List.set_cons_zero, List.set_cons_succ]
              refine wpAnyH_take (i := 10) (oi := ?oi111) (v := ?v111) ?hi111 (by kernel_rfl) ?hf111 ?hr111 ?hQ111 (Or.inl ⟨?hw111, ?hy111⟩) (by assumption) ?rest111
              case hi111 => simp only [List.getElem?_toArray, List.getElem?_cons_succ, List.getElem?_cons_zero]; rfl
              case hf111 => kernel_rfl
              case hr111 => kernel_rfl
              case hw111 => rfl
              case hy111 => (intro w hSw; (try dsimp only at hSw); go_simp; all_goals (first | done | with_reducible rfl))
              case hQ111 => exact fun _ _ _ h => h
              simp only [Act.put, List.setIfInBounds_toArray, List.set_cons_zero, List.set_cons_succ]
              refine wpAnyH_take (i := 11) (oi := ?oi112) (v := ?v112) ?hi112 (by kernel_rfl) ?hf112 ?hr112 ?hQ112 (Or.inl ⟨?hw112, ?hy112⟩) (by assumption) ?rest112
              case hi112 => simp only [List.getElem?_toArray, List.getElem?_cons_succ, List.getElem?_cons_zero]; rfl
              case hf112 => kernel_rfl
              case hr112 => kernel_rfl
              case hw112 => rfl
              case hy112 => (intro w hSw; (try dsimp only at hSw); go_simp; all_goals (first | done | with_reducible rfl))
              case hQ112 => exact fun _ _ _ h => h
              simp only [Act.put, List.setIfInBounds_toArray, List.set_cons_zero, List.set_cons_succ]
              refine wpAnyH_take (i := 12) (oi := ?oi113) (v := ?v113) ?hi113 (by kernel_rfl) ?hf113 ?hr113 ?hQ113 (Or.inl ⟨?hw113, ?hy113⟩) (by assumption) ?rest113
              case hi113 => simp only [List.getElem?_toArray, List.getElem?_cons_succ, List.getElem?_cons_zero]; rfl
              case hf113 => kernel_rfl
              case hr113 => kernel_rfl
              case hw113 => rfl
              case hy113 => (intro w hSw; (try dsimp only at hSw); go_simp; all_goals (first | done | with_reducible rfl))
              case hQ113 => exact fun _ _ _ h => h
              simp only [Act.put, List.setIfInBounds_toArray, List.set_cons_zero, List.set_cons_succ]
              refine wpAnyH_take (i := 13) (oi := ?oi114) (v := ?v114) ?hi114 (by kernel_rfl) ?hf114 ?hr114 ?hQ114 (Or.inl ⟨?hw114, ?hy114⟩) (by assumption) ?rest114
              case hi114 => simp only [List.getElem?_toArray, List.getElem?_cons_succ, List.getElem?_cons_zero]; rfl
              case hf114 => kernel_rfl
              case hr114 => kernel_rfl
              case hw114 => rfl
              case hy114 => (intro w hSw; (try dsimp only at hSw); go_simp; all_goals (first | done | with_reducible rfl))
              case hQ114 => exact fun _ _ _ h => h
              simp only [Act.put, List.setIfInBounds_toArray, List.set_cons_zero, List.set_cons_succ]
              refine wpAnyH_take (i := 14) (oi := ?oi115) (v := ?v115) ?hi115 (by kernel_rfl) ?hf115 ?hr115 ?hQ115 (Or.inl ⟨?hw115, ?hy115⟩) (by assumption) ?rest115
              case hi115 => simp only [List.getElem?_toArray, List.getElem?_cons_succ, List.getElem?_cons_zero]; rfl
              case hf115 => kernel_rfl
              case hr115 => kernel_rfl
              case hw115 => rfl
              case hy115 => (intro w hSw; (try dsimp only at hSw); go_simp; all_goals (first | done | with_reducible rfl))
              case hQ115 => exact fun _ _ _ h => h
              simp only [Act.put, List.setIfInBounds_toArray, List.set_cons_zero, List.set_cons_succ]
              refine wpAnyH_take (i := 15) (oi := ?oi116) (v := ?v116) ?hi116 (by kernel_rfl) ?hf116 ?hr116 ?hQ116 (Or.inl ⟨?hw116, ?hy116⟩) (by assumption) ?rest116
              case hi116 => simp only [List.getElem?_toArray, List.getElem?_cons_succ, List.getElem?_cons_zero]; rfl
              case hf116 => kernel_rfl
              case hr116 => kernel_rfl
              case hw116 => rfl
              case hy116 => (intro w hSw; (try dsimp only at hSw); go_simp; all_goals (first | done | with_reducible rfl))
              case hQ116 => exact fun _ _ _ h => h
              simp only [Act.put, List.setIfInBounds_toArray, List.set_cons_zero, List.set_cons_succ]
              refine wpAnyH_take (i := 16) (oi := ?oi117) (v := ?v117) ?hi117 (by kernel_rfl) ?hf117 ?hr117 ?hQ117 (Or.inl ⟨?hw117, ?hy117⟩) (by assumption) ?rest117
              case hi117 => simp only [List.getElem?_toArray, List.getElem?_cons_succ, List.getElem?_cons_zero]; rfl
              case hf117 => kernel_rfl
              case hr117 => kernel_rfl
              case hw117 => rfl
              case hy117 => (intro w hSw; (try dsimp only at hSw); go_simp; all_goals (first | done | with_reducible rfl))
              case hQ117 => exact fun _ _ _ h => h
              simp only [Act.put, List.setIfInBounds_toArray, List.set_cons_zero, List.set_cons_succ]
              refine wpAnyH_take (i := 17) (oi := ?oi118) (v := ?v118) ?hi118 (by kernel_rfl) ?hf118 ?hr118 ?hQ118 (Or.inl ⟨?hw118, ?hy118⟩) (by assumption) ?rest118
              case hi118 => simp only [List.getElem?_toArray, List.getElem?_cons_succ, List.getElem?_cons_zero]; rfl
              case hf118 => kernel_rfl
              case hr118 => kernel_rfl
              case hw118 => rfl
              case hy118 => (intro w hSw; (try dsimp only at hSw); go_simp; all_goals (first | done | with_reducible rfl))
              case hQ118 => exact fun _ _ _ h => h
              simp only [Act.put, List.setIfInBounds_toArray, List.set_cons_zero, List.set_cons_succ]
              refine wpAnyH_take (i := 18) (oi := ?oi119) (v := ?v119) ?hi119 (by kernel_rfl) ?hf119 ?hr119 ?hQ119 (Or.inl ⟨?hw119, ?hy119⟩) (by assumption) ?rest119
              case hi119 => simp only [List.getElem?_toArray, List.getElem?_cons_succ, List.getElem?_cons_zero]; rfl
              case hf119 => kernel_rfl
              case hr119 => kernel_rfl
              case hw119 => rfl
              case hy119 => (intro w hSw; (try dsimp only at hSw); go_simp; all_goals (first | done | with_reducible rfl))
              case hQ119 => exact fun _ _ _ h => h
              simp only [Act.put, List.setIfInBounds_toArray, List.set_cons_zero, List.set_cons_succ]
              refine wpAnyH_take (i := 19) (oi := ?oi120) (v := ?v120) ?hi120 (by kernel_rfl) ?hf120 ?hr120 ?hQ120 (Or.inl ⟨?hw120, ?hy120⟩) (by assumption) ?rest120
              case hi120 => simp only [List.getElem?_toArray, List.getElem?_cons_succ, List.getElem?_cons_zero]; rfl
              case hf120 => kernel_rfl
              case hr120 => kernel_rfl
              case hw120 => rfl
              case hy120 => (intro w hSw; (try dsimp only at hSw); go_simp; all_goals (first | done | with_reducible rfl))
              case hQ120 => exact fun _ _ _ h => h
              simp only [Act.put, List.setIfInBounds_toArray, List.set_cons_zero, List.set_cons_succ]
              refine wpAnyH_ready (rs := [20]) (by kernel_rfl) (by simp) ?_
              refine AllReadyH.cons (o := ?oi121) ?hi121 (fun K hK => ?step121) AllReadyH.nil
              case hi121 => simp only [List.getElem?_toArray, List.getElem?_cons_succ, List.getElem?_cons_zero]; rfl
              rw [if_pos (by rfl)]
              go_simp
              go_at_call 21
              refine (CB.out _).mono ?_
              rintro e w28 ⟨rfl, hb⟩
              have HW28 := hid (HWs.out.drew.trans (hb.mono HWs.out.size))
              have HV28 := hid (HVs.out.drew.trans (hb.mono HVs.out.size))
              refine hK.out _ _ ⟨(hb.cell (p := ⟨g3, j - 1, none⟩) hgw).trans ca, (hb.cell (p := ⟨g3, j, none⟩) hgw).trans cb⟩ (fun hS => ?_)
              refine wpAnyH_take (i := 21) (oi := ?oi122) (v := ?v122) ?hi122 (by kernel_rfl) ?hf122 ?hr122 ?hQ122 (Or.inl ⟨?hw122, ?hy122⟩) (by assumption) ?rest122
              case hi122 => simp only [List.getElem?_toArray, List.getElem?_cons_succ, List.getElem?_cons_zero]; rfl
              case hf122 => kernel_rfl
              case hr122 => kernel_rfl
              case hw122 => rfl
              case hy122 => (intro w hSw; (try dsimp only at hSw); go_simp; all_goals (first | done | with_reducible rfl))
              case hQ122 => exact fun _ _ _ h => h
              simp only [Act.put, List.setIfInBounds_toArray, List.set_cons_zero, List.set_cons_succ]
              refine wpAnyH_take (i := 22) (oi := ?oi123) (v := ?v123) ?hi123 (by kernel_rfl) ?hf123 ?hr123 ?hQ123 (Or.inl ⟨?hw123, ?hy123⟩) (by assumption) ?rest123
              case hi123 => simp only [List.getElem?_toArray, List.getElem?_cons_succ, List.getElem?_cons_zero]; rfl
              case hf123 => kernel_rfl
              case hr123 => kernel_rfl
              case hw123 => rfl
              case hy123 => (intro w hSw; (try dsimp only at hSw); go_simp; all_goals (first | done | with_reducible rfl))
              case hQ123 => exact fun _ _ _ h => h
              simp only [Act.put, List.setIfInBounds_toArray, List.set_cons_zero, List.set_cons_succ]
              refine wpAnyH_done (by kernel_rfl) ?_ _
              clear hb ca cb
              go_wp2_with fail
              go_roundw
              case rel => exact ⟨j + 1, by go_num, by omega, by omega, HW28.out, HV28.out⟩
              case measure => simp [intOf]; omega
            · obtain rfl : j = m := by omega
              have cn := HC.out 0 _ F3.out wr HVs.out
              have cl : wr.cell? ⟨g3, j - 1, none⟩ = some (.string ⟨#[]⟩) := HC.out (j - 1) _ F4.out wr HVs.out
              obtain ⟨nr, hnr1⟩ : ∃ nr : ByteArray, txt (nearestT L H q nm.data.toList) = .string nr := ⟨_, rfl⟩
              rw [hnr1] at cn CX
              have en := eq_true_of (a := nr) (b := nr) rfl
              have d0 := ((KB.out.to HWs.out).2 0 _ rfl).1
              have d1 := ((KB.out.to HWs.out).2 1 _ rfl).1
              have d2 := ((KB.out.to HWs.out).2 2 _ rfl).1
              have q1 : IntKind.i64.wrap ((j : Int) - 1) = (j : Int) - 1 := by rw [IntKind.wrap_i64]; omega
              have q2 : (0 : Int) ≤ (j : Int) - 1 := by omega
              have q3 : ((j : Int) - 1).toNat = j - 1 := by omega
              have q4 : (j : Int) - 1 < (j : Int) := by omega
              have q5 : j - 1 < j := by omega
              have q6 : 0 < j := by omega
              have q7 : (1 : Int) ≤ (j : Int) := by omega
              have hgw : g3 < wr.heap.size := Nat.lt_of_lt_of_le hg3 HVs.out.size
              have HWd := hid (HWs.out.drew)
              clear hnr1
              go_wp2_with fail
              refine wp_region_held_drew (S := (fun w' : World => (w'.cell? ⟨bb, 0, none⟩ = some (.slice A1 n1 k1) ∧ w'.cell? ⟨bb, 1, none⟩ = some (.slice A2 n2 k2) ∧ w'.cell? ⟨bb, 2, none⟩ = some (.int .i64 q)) ∧ w'.cell? ⟨g3, 0, none⟩ = some (.string nr) ∧ w'.cell? ⟨g3, j - 1, none⟩ = some (.string ⟨#[]⟩))) (by kernel_rfl) ⟨⟨d0, d1, d2⟩, cn, cl⟩ (fun hS => ?_)
              refine wpAnyH_take (i := 0) (oi := ?oi124) (v := ?v124) ?hi124 (by kernel_rfl) ?hf124 ?hr124 ?hQ124 (Or.inl ⟨?hw124, ?hy124⟩) (by assumption) ?rest124
              case hi124 => simp only [List.getElem?_toArray, List.getElem?_cons_succ, List.getElem?_cons_zero]; rfl
              case hf124 => kernel_rfl
              case hr124 => kernel_rfl
              case hw124 => rfl
              case hy124 => (intro w hSw; (try dsimp only at hSw); go_simp; all_goals (first | done | with_reducible rfl))
              case hQ124 => exact fun _ _ _ h => h
              simp only [Act.put, List.setIfInBounds_toArray, List.set_cons_zero, List.set_cons_succ]
              refine wpAnyH_take (i := 1) (oi := ?oi125) (v := ?v125) ?hi125 (by kernel_rfl) ?hf125 ?hr125 ?hQ125 (Or.inl ⟨?hw125, ?hy125⟩) (by assumption) ?rest125
              case hi125 => simp only [List.getElem?_toArray, List.getElem?_cons_succ, List.getElem?_cons_zero]; rfl
              case hf125 => kernel_rfl
              case hr125 => kernel_rfl
              case hw125 => rfl
              case hy125 => (intro w hSw; (try dsimp only at hSw); go_simp; all_goals (first | done | with_reducible rfl))
              case hQ125 => exact fun _ _ _ h => h
              simp only [Act.put, List.setIfInBounds_toArray, List.set_cons_zero, List.set_cons_succ]
              refine wpAnyH_take (i := 2) (oi := ?oi126) (v := ?v126) ?hi126 (by kernel_rfl) ?hf126 ?hr126 ?hQ126 (Or.inl ⟨?hw126, ?hy126⟩) (by assumption) ?rest126
              case hi126 => simp only [List.getElem?_toArray, List.getElem?_cons_succ, List.getElem?_cons_zero]; rfl
              case hf126 => kernel_rfl
              case hr126 => kernel_rfl
              case hw126 => rfl
              case hy126 => (intro w hSw; (try dsimp only at hSw); go_simp; all_goals (first | done | with_reducible rfl))
              case hQ126 => exact fun _ _ _ h => h
              simp only [Act.put, List.setIfInBounds_toArray, List.set_cons_zero, List.set_cons_succ]
              refine wpAnyH_take (i := 3) (oi := ?oi127) (v := ?v127) ?hi127 (by kernel_rfl) ?hf127 ?hr127 ?hQ127 (Or.inl ⟨?hw127, ?hy127⟩) (by assumption) ?rest127
              case hi127 => simp only [List.getElem?_toArray, List.getElem?_cons_succ, List.getElem?_cons_zero]; rfl
              case hf127 => kernel_rfl
              case hr127 => kernel_rfl
              case hw127 => rfl
              case hy127 => (intro w hSw; (try dsimp only at hSw); go_simp; all_goals (first | done | with_reducible rfl))
              case hQ127 => exact fun _ _ _ h => h
              simp only [Act.put, List.setIfInBounds_toArray, List.set_cons_zero, List.set_cons_succ]
              refine wpAnyH_take (i := 4) (oi := ?oi128) (v := ?v128) ?hi128 (by kernel_rfl) ?hf128 ?hr128 ?hQ128 (Or.inl ⟨?hw128, ?hy128⟩) (by assumption) ?rest128
              case hi128 => simp only [List.getElem?_toArray, List.getElem?_cons_succ, List.getElem?_cons_zero]; rfl
              case hf128 => kernel_rfl
              case hr128 => kernel_rfl
              case hw128 => rfl
              case hy128 => (intro w hSw; (try dsimp only at hSw); go_simp; all_goals (first | done | with_reducible rfl))
              case hQ128 => exact fun _ _ _ h => h
              simp only [Act.put, List.setIfInBounds_toArray, List.set_cons_zero, List.set_cons_succ]
              refine wpAnyH_take (i := 5) (oi := ?oi129) (v := ?v129) ?hi129 (by kernel_rfl) ?hf129 ?hr129 ?hQ129 (Or.inl ⟨?hw129, ?hy129⟩) (by assumption) ?rest129
              case hi129 => simp only [List.getElem?_toArray, List.getElem?_cons_succ, List.getElem?_cons_zero]; rfl
              case hf129 => kernel_rfl
              case hr129 => kernel_rfl
              case hw129 => rfl
              case hy129 => (intro w hSw; (try dsimp only at hSw); go_simp; all_goals (first | done | with_reducible rfl))
              case hQ129 => exact fun _ _ _ h => h
              simp only [Act.put, List.setIfInBounds_toArray, List.set_cons_zero, List.set_cons_succ]
              refine wpAnyH_take (i := 6) (oi := ?oi130) (v := ?v130) ?hi130 (by kernel_rfl) ?hf130 ?hr130 ?hQ130 (Or.inl ⟨?hw130, ?hy130⟩) (by assumption) ?rest130
              case hi130 => simp only [List.getElem?_toArray, List.getElem?_cons_succ, List.getElem?_cons_zero]; rfl
              case hf130 => kernel_rfl
              case hr130 => kernel_rfl
              case hw130 => rfl
              case hy130 => (intro w hSw; (try dsimp only at hSw); go_simp; all_goals (first | done | with_reducible rfl))
              case hQ130 => exact fun _ _ _ h => h
              simp only [Act.put, List.setIfInBounds_toArray, List.set_cons_zero, List.set_cons_succ]
              refine wpAnyH_take (i := 7) (oi := ?oi131) (v := ?v131) ?hi131 (by kernel_rfl) ?hf131 ?hr131 ?hQ131 (Or.inl ⟨?hw131, ?hy131⟩) (by assumption) ?rest131
              case hi131 => simp only [List.getElem?_toArray, List.getElem?_cons_succ, List.getElem?_cons_zero]; rfl
              case hf131 => kernel_rfl
              case hr131 => kernel_rfl
              case hw131 => rfl
              case hy131 => (intro w hSw; (try dsimp only at hSw); go_simp; all_goals (first | done | with_reducible rfl))
              case hQ131 => exact fun _ _ _ h => h
              simp only [Act.put, List.setIfInBounds_toArray, List.set_cons_zero, List.set_cons_succ]
              refine wpAnyH_take (i := 8) (oi := ?oi132) (v := ?v132) ?hi132 (by kernel_rfl) ?hf132 ?hr132 ?hQ132 (Or.inl ⟨?hw132, ?hy132⟩) (by assumption) ?rest132
              case hi132 => simp only [List.getElem?_toArray, List.getElem?_cons_succ, List.getElem?_cons_zero]; rfl
              case hf132 => kernel_rfl
              case hr132 => kernel_rfl
              case hw132 => rfl
              case hy132 => (intro w hSw; (try dsimp only at hSw); go_simp; all_goals (first | done | with_reducible rfl))
              case hQ132 => exact fun _ _ _ h => h
              simp only [Act.put, List.setIfInBounds_toArray, List.set_cons_zero, List.set_cons_succ]
              refine wpAnyH_take (i := 9) (oi := ?oi133) (v := ?v133) ?hi133 (by kernel_rfl) ?hf133 ?hr133 ?hQ133 (Or.inl ⟨?hw133, ?hy133⟩) (by assumption) ?rest133
              case hi133 => simp only [List.getElem?_toArray, List.getElem?_cons_succ, List.getElem?_cons_zero]; rfl
              case hf133 => kernel_rfl
              case hr133 => kernel_rfl
              case hw133 => rfl
              case hy133 => (intro w hSw; (try dsimp only at hSw); go_simp; all_goals (first | done | with_reducible rfl))
              case hQ133 => exact fun _ _ _ h => h
              simp only [Act.put, List.setIfInBounds_toArray, List.set_cons_zero, List.set_cons_succ]
              refine wpAnyH_ready (rs := [10]) (by kernel_rfl) (by simp) ?_
              refine AllReadyH.cons (o := ?oi134) ?hi134 (fun K hK => ?step134) AllReadyH.nil
              case hi134 => simp only [List.getElem?_toArray, List.getElem?_cons_succ, List.getElem?_cons_zero]; rfl
              rw [if_pos (by rfl)]
              go_simp
              go_at_call 18
              refine (CX.out _ HWd.out).mono ?_
              rintro e w28 ⟨rfl, hb⟩
              have HW28 := hid (HWd.out.trans (hb.mono HWd.out.size))
              have s28 : w28.cell? ⟨bb, 0, none⟩ = some (.slice A1 n1 k1) ∧ w28.cell? ⟨bb, 1, none⟩ = some (.slice A2 n2 k2) ∧ w28.cell? ⟨bb, 2, none⟩ = some (.int .i64 q) := ⟨((KB.out.to HW28.out).2 0 _ rfl).1, ((KB.out.to HW28.out).2 1 _ rfl).1, ((KB.out.to HW28.out).2 2 _ rfl).1⟩
              refine hK.out _ _ ⟨s28, (hb.cell (p := ⟨g3, 0, none⟩) hgw).trans cn, (hb.cell (p := ⟨g3, j - 1, none⟩) hgw).trans cl⟩ (fun hS => ?_)
              refine wpAnyH_take (i := 11) (oi := ?oi135) (v := ?v135) ?hi135 (by kernel_rfl) ?hf135 ?hr135 ?hQ135 (Or.inl ⟨?hw135, ?hy135⟩) (by assumption) ?rest135
              case hi135 => simp only [List.getElem?_toArray, List.getElem?_cons_succ, List.getElem?_cons_zero]; rfl
              case hf135 => kernel_rfl
              case hr135 => kernel_rfl
              case hw135 => rfl
              case hy135 => (intro w hSw; (try dsimp only at hSw); go_simp; all_goals (first | done | with_reducible rfl))
              case hQ135 => exact fun _ _ _ h => h
              simp only [Act.put, List.setIfInBounds_toArray, List.set_cons_zero, List.set_cons_succ]
              refine wpAnyH_take (i := 12) (oi := ?oi136) (v := ?v136) ?hi136 (by kernel_rfl) ?hf136 ?hr136 ?hQ136 (Or.inl ⟨?hw136, ?hy136⟩) (by assumption) ?rest136
              case hi136 => simp only [List.getElem?_toArray, List.getElem?_cons_succ, List.getElem?_cons_zero]; rfl
              case hf136 => kernel_rfl
              case hr136 => kernel_rfl
              case hw136 => rfl
              case hy136 => (intro w hSw; (try dsimp only at hSw); go_simp; all_goals (first | done | with_reducible rfl))
              case hQ136 => exact fun _ _ _ h => h
              simp only [Act.put, List.setIfInBounds_toArray, List.set_cons_zero, List.set_cons_succ]
              refine wpAnyH_take (i := 13) (oi := ?oi137) (v := ?v137) ?hi137 (by kernel_rfl) ?hf137 ?hr137 ?hQ137 (Or.inl ⟨?hw137, ?hy137⟩) (by assumption) ?rest137
              case hi137 => simp only [List.getElem?_toArray, List.getElem?_cons_succ, List.getElem?_cons_zero]; rfl
              case hf137 => kernel_rfl
              case hr137 => kernel_rfl
              case hw137 => rfl
              case hy137 => (intro w hSw; (try dsimp only at hSw); go_simp; all_goals (first | done | with_reducible rfl))
              case hQ137 => exact fun _ _ _ h => h
              simp only [Act.put, List.setIfInBounds_toArray, List.set_cons_zero, List.set_cons_succ]
              refine wpAnyH_take (i := 14) (oi := ?oi138) (v := ?v138) ?hi138 (by kernel_rfl) ?hf138 ?hr138 ?hQ138 (Or.inl ⟨?hw138, ?hy138⟩) (by assumption) ?rest138
              case hi138 => simp only [List.getElem?_toArray, List.getElem?_cons_succ, List.getElem?_cons_zero]; rfl
              case hf138 => kernel_rfl
              case hr138 => kernel_rfl
              case hw138 => rfl
              case hy138 => (intro w hSw; (try dsimp only at hSw); go_simp; all_goals (first | done | with_reducible rfl))
              case hQ138 => exact fun _ _ _ h => h
              simp only [Act.put, List.setIfInBounds_toArray, List.set_cons_zero, List.set_cons_succ]
              refine wpAnyH_take (i := 15) (oi := ?oi139) (v := ?v139) ?hi139 (by kernel_rfl) ?hf139 ?hr139 ?hQ139 (Or.inl ⟨?hw139, ?hy139⟩) (by assumption) ?rest139
              case hi139 => simp only [List.getElem?_toArray, List.getElem?_cons_succ, List.getElem?_cons_zero]; rfl
              case hf139 => kernel_rfl
              case hr139 => kernel_rfl
              case hw139 => rfl
              case hy139 => (intro w hSw; (try dsimp only at hSw); go_simp; all_goals (first | done | with_reducible rfl))
              case hQ139 => exact fun _ _ _ h => h
              simp only [Act.put, List.setIfInBounds_toArray, List.set_cons_zero, List.set_cons_succ]
              refine wpAnyH_take (i := 16) (oi := ?oi140) (v := ?v140) ?hi140 (by kernel_rfl) ?hf140 ?hr140 ?hQ140 (Or.inl ⟨?hw140, ?hy140⟩) (by assumption) ?rest140
              case hi140 => simp only [List.getElem?_toArray, List.getElem?_cons_succ, List.getElem?_cons_zero]; rfl
              case hf140 => kernel_rfl
              case hr140 => kernel_rfl
              case hw140 => rfl
              case hy140 => (intro w hSw; (try dsimp only at hSw); go_simp; all_goals (first | done | with_reducible rfl))
              case hQ140 => exact fun _ _ _ h => h
              simp only [Act.put, List.setIfInBounds_toArray, List.set_cons_zero, List.set_cons_succ]
              refine wpAnyH_take (i := 17) (oi := ?oi141) (v := ?v141) ?hi141 (by kernel_rfl) ?hf141 ?hr141 ?hQ141 (Or.inl ⟨?hw141, ?hy141⟩) (by assumption) ?rest141
              case hi141 => simp only [List.getElem?_toArray, List.getElem?_cons_succ, List.getElem?_cons_zero]; rfl
              case hf141 => kernel_rfl
              case hr141 => kernel_rfl
              case hw141 => rfl
              case hy141 => (intro w hSw; (try dsimp only at hSw); go_simp; all_goals (first | done | with_reducible rfl))
              case hQ141 => exact fun _ _ _ h => h
              simp only [Act.put, List.setIfInBounds_toArray, List.set_cons_zero, List.set_cons_succ]
              refine wpAnyH_take (i := 18) (oi := ?oi142) (v := ?v142) ?hi142 (by kernel_rfl) ?hf142 ?hr142 ?hQ142 (Or.inl ⟨?hw142, ?hy142⟩) (by assumption) ?rest142
              case hi142 => simp only [List.getElem?_toArray, List.getElem?_cons_succ, List.getElem?_cons_zero]; rfl
              case hf142 => kernel_rfl
              case hr142 => kernel_rfl
              case hw142 => rfl
              case hy142 => (intro w hSw; (try dsimp only at hSw); go_simp; all_goals (first | done | with_reducible rfl))
              case hQ142 => exact fun _ _ _ h => h
              simp only [Act.put, List.setIfInBounds_toArray, List.set_cons_zero, List.set_cons_succ]
              refine wpAnyH_take (i := 19) (oi := ?oi143) (v := ?v143) ?hi143 (by kernel_rfl) ?hf143 ?hr143 ?hQ143 (Or.inl ⟨?hw143, ?hy143⟩) (by assumption) ?rest143
              case hi143 => simp only [List.getElem?_toArray, List.getElem?_cons_succ, List.getElem?_cons_zero]; rfl
              case hf143 => kernel_rfl
              case hr143 => kernel_rfl
              case hw143 => rfl
              case hy143 => (intro w hSw; (try dsimp only at hSw); go_simp; all_goals (first | done | with_reducible rfl))
              case hQ143 => exact fun _ _ _ h => h
              simp only [Act.put, List.setIfInBounds_toArray, List.set_cons_zero, List.set_cons_succ]
              refine wpAnyH_take (i := 20) (oi := ?oi144) (v := ?v144) ?hi144 (by kernel_rfl) ?hf144 ?hr144 ?hQ144 (Or.inl ⟨?hw144, ?hy144⟩) (by assumption) ?rest144
              case hi144 => simp only [List.getElem?_toArray, List.getElem?_cons_succ, List.getElem?_cons_zero]; rfl
              case hf144 => kernel_rfl
              case hr144 => kernel_rfl
              case hw144 => rfl
              case hy144 => (intro w hSw; (try dsimp only at hSw); go_simp; all_goals (first | done | with_reducible rfl))
              case hQ144 => exact fun _ _ _ h => h
              simp only [Act.put, List.setIfInBounds_toArray, List.set_cons_zero, List.set_cons_succ]
              refine wpAnyH_take (i := 21) (oi := ?oi145) (v := ?v145) ?hi145 (by kernel_rfl) ?hf145 ?hr145 ?hQ145 (Or.inl ⟨?hw145, ?hy145⟩) (by assumption) ?rest145
              case hi145 => simp only [List.getElem?_toArray, List.getElem?_cons_succ, List.getElem?_cons_zero]; rfl
              case hf145 => kernel_rfl
              case hr145 => kernel_rfl
              case hw145 => rfl
              case hy145 => (intro w hSw; (try dsimp only at hSw); go_simp; all_goals (first | done | with_reducible rfl))
              case hQ145 => exact fun _ _ _ h => h
              simp only [Act.put, List.setIfInBounds_toArray, List.set_cons_zero, List.set_cons_succ]
              refine wpAnyH_done (by kernel_rfl) ?_ _
              clear hb cn cl d0 d1 d2 s28
              go_wp2_with fail
              go_ret
              exact ⟨rfl, HB.out.trans (HW28.out.mono HB.out.size)⟩
end Go.Proofs.Yteammkclbgniiaa
