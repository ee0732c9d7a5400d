/-
  WALK: the law FnChildrenOf. By gen_t.py.
-/
import Derived.Test.YteammkclbgniiaaE9
namespace Go.Proofs.Yteammkclbgniiaa
open Go.RowKit Nm
set_option linter.unusedSimpArgs false
set_option linter.unusedVariables false
theorem child_parent {L : List Lgr} {H : List Hnd} {q : Int} {x y : Name} (h : treeOk L H q = true) (hy : y ∈ childrenT L H q x) : parentT L H q y = x ∧ parentB L H q y = true ∧ y.length ≤ 100 := by
  obtain ⟨h0, hnd, hnm⟩ := tree_nm h
  unfold childrenT at hy
  rw [if_pos h] at hy
  obtain ⟨hm, hc⟩ := List.mem_filter.1 hy
  unfold childOk at hc
  simp only [Bool.and_eq_true, Bool.not_eq_true', decide_eq_false_iff_not, decide_eq_true_eq] at hc
  have hb : parentB L H q y = true := by unfold parentB; rw [h]; simp [hc.1, hm]
  obtain ⟨k, hk, hq⟩ := ns_index hm
  have g : (nsOf L).getD k [] = y := by simp [List.getD, hq]
  refine ⟨?_, hb, ?_⟩
  · unfold parentT
    rw [hb, if_pos rfl, near_hit h0 hnd _ k hq]
    unfold upN
    rw [g]; exact hc.2
  · have := name_size _ (hnm _ hm); omega
theorem sum_plus {β : Type} (f g : β → Nat) (ys : List β) : (ys.map (fun y => f y + g y)).sum = (ys.map f).sum + (ys.map g).sum := by
  induction ys with
  | nil => rfl
  | cons a ys ih => simp only [List.map_cons, List.sum_cons, ih]; omega
theorem sum_ind {β : Type} (p : β → Bool) (ys : List β) : (ys.map (fun y => if p y = true then 1 else 0)).sum = ys.countP p := by
  induction ys with
  | nil => rfl
  | cons a ys ih => simp only [List.map_cons, List.sum_cons, ih, List.countP_cons]; omega
theorem sum_swap {α β : Type} (c : α → β → Bool) (zs : List α) (ys : List β) : (zs.map (fun z => ys.countP (c z))).sum = (ys.map (fun y => zs.countP (fun z => c z y))).sum := by
  induction zs with
  | nil => induction ys with
    | nil => rfl
    | cons a ys ih => simpa using ih
  | cons z zs ih =>
    rw [List.map_cons, List.sum_cons, ih, ← sum_ind (c z) ys, ← sum_plus]
    congr 1
    refine List.map_congr_left fun y _ => ?_
    rw [List.countP_cons]; omega
theorem child_sum {L : List Lgr} {H : List Hnd} {q : Int} (h : treeOk L H q = true) : (L.map (fun l => (childrenT L H q l.nm).length)).sum + 1 = L.length := by
  obtain ⟨h0, hnd, hnm⟩ := tree_nm h
  have e0 : ∀ l : Lgr, (childrenT L H q l.nm).length = (nsOf L).countP (childOk (nsOf L) l.nm) := by
    intro l
    unfold childrenT
    rw [if_pos h, List.countP_eq_length_filter]
  have eg : ∀ (g : Name → Nat), L.map (fun l => g l.nm) = (nsOf L).map g := fun g => by unfold nsOf; rw [List.map_map]; rfl
  have e1 : L.map (fun l => (childrenT L H q l.nm).length) = (nsOf L).map (fun z => (nsOf L).countP (childOk (nsOf L) z)) :=
    (List.map_congr_left (fun l _ => e0 l)).trans (eg (fun z => (nsOf L).countP (childOk (nsOf L) z)))
  rw [e1, sum_swap]
  have e2 : (nsOf L).map (fun y => (nsOf L).countP (fun z => childOk (nsOf L) z y)) = (nsOf L).map (fun y => if (!decide (y = [])) = true then 1 else 0) := by
    refine List.map_congr_left fun y hy => ?_
    by_cases hy0 : y = []
    · subst hy0
      simp [childOk]
    · have hp : (nsOf L).getD (nearN (nsOf L) (aboveL y)) [] ∈ nsOf L := getD_mem (near_lt h0 _)
      have e3 : (nsOf L).countP (fun z => childOk (nsOf L) z y) = (nsOf L).count ((nsOf L).getD (nearN (nsOf L) (aboveL y)) []) := by
        unfold List.count
        refine List.countP_congr fun z _ => ?_
        unfold childOk
        simp only [Bool.and_eq_true, Bool.not_eq_true', decide_eq_false_iff_not, decide_eq_true_eq, beq_iff_eq]
        exact ⟨fun h9 => h9.2.symm, fun h9 => ⟨hy0, h9.symm⟩⟩
      rw [e3, hnd.count, if_pos hp]
      simp [hy0]
  rw [e2, sum_ind]
  have e4 : (nsOf L).countP (fun y => decide (y = [])) = 1 := by
    have : (nsOf L).countP (fun y => decide (y = ([] : Name))) = (nsOf L).count [] := by
      unfold List.count
      refine List.countP_congr fun y _ => ?_
      simp
    rw [this, hnd.count, if_pos (List.mem_of_getElem? h0)]
  have e5 := count_or (fun _ : Name => true) (fun y => !decide (y = [])) (fun y => decide (y = [])) (nsOf L) (fun y _ => by cases decide (y = []) <;> simp)
  rw [e4] at e5
  have e6 : (nsOf L).countP (fun _ => true) = (nsOf L).length := by simp
  have e7 : (nsOf L).length = L.length := by simp [nsOf]
  exact (e5.symm.trans e6).trans e7
set_option maxHeartbeats 8000000 in
set_option maxRecDepth 100000 in
theorem walk_FnChildrenOf (a0 : Option Addr) (len0 cap0 : Nat) (z0 : List Int) (w : World) (w0 : IsRow .u8 w a0 len0 cap0 z0) :
    Calls Try.prog 8 #[.slice a0 len0 cap0] w (BoolPost w true) := by
  have hb0 := w0.leT
  by_cases h1 : (1048576 : Int) < (len0 : Int)
  · go_enter Try.func8, Try.ntmps8
    go_wp2_with fail
    go_ret
    exact ⟨rfl, Below.refl _ _⟩
  have DR := hid (drawChildrenOf_c a0 len0 cap0 z0 w w0)
  clear w0
  go_enter Try.func8, Try.ntmps8
  go_wp2_with fail
  refine DR.out.mono ?_
  rintro e w1 ⟨v, rs, L, H, q, nm, rfl, hs, hsm, hnm, hr, hb⟩
  obtain ⟨A1, n1, k1, A2, n2, k2, rfl, hn1, hn2⟩ := hs.form_ hr
  have hd := sm_fit hsm (by omega)
  have TI0 := hs.at_ hr hd
  have hbx : Below w1.heap.size w1 (w1.alloc (.cells #[.slice A1 n1 k1, .slice A2 n2 k2, .int .i64 q] 26)) := (Below.refl _ _).alloc (Nat.le_refl _) _
  have TI := hid (TI0.below hbx (Nat.le_refl _))
  have KB := hid (Blk.new w1 #[.slice A1 n1 k1, .slice A2 n2 k2, .int .i64 q] 26)
  have HB := hid (hb.trans (hbx.mono hb.size))
  have hl1 : w1.heap.size < (w1.alloc (.cells #[.slice A1 n1 k1, .slice A2 n2 k2, .int .i64 q] 26)).heap.size := by simp
  have HL := hid (And.intro hn1 (And.intro hsm.1 hsm.2.1.1))
  replace hd := hid hd
  clear hs hr hb hn1 hn2 hsm TI0 hbx DR
  go_wp2_with fail
  generalize hbb : w1.heap.size = bb at *
  generalize w1.alloc (.cells #[.slice A1 n1 k1, .slice A2 n2 k2, .int .i64 q] 26) = w2 at *
  clear hbb
  have d0 := (KB.out.2 0 _ rfl).1
  have d1 := (KB.out.2 1 _ rfl).1
  have d2 := (KB.out.2 2 _ rfl).1
  have HW := hid (Below.refl w2.heap.size w2)
  have TT := hid (fun (W : World) (hW : Below w2.heap.size w2 W) => (And.intro (TI.out.below hW (Nat.le_of_lt hl1)) (Nat.le_trans (Nat.le_of_lt hl1) hW.size)))
  have CI := hid (fun (W : World) (hW : Below w2.heap.size w2 W) => implChildrenOf_c nm (TT.out W hW).1 (TT.out W hW).2)
  have CS := hid (fun (W : World) (hW : Below w2.heap.size w2 W) => specChildrenOf_c nm (TT.out W hW).1 (TT.out W hW).2)
  have CT := hid (fun (W : World) (hW : Below w2.heap.size w2 W) => implValidTreeX_c (TT.out W hW).1 (TT.out W hW).2)
  have CC := hid (fun (s : ByteArray) (W : World) (hW : Below w2.heap.size w2 W) => implChildrenOf_c s (TT.out W hW).1 (TT.out W hW).2)
  have CP := hid (fun (h : treeOk L H q = true) (s : ByteArray) (hs : s.data.toList ∈ childrenT L H q nm.data.toList) (W : World) (hW : Below w2.heap.size w2 W) => (show Calls Try.prog 27 #[.agg #[.slice A1 n1 k1, .slice A2 n2 k2, .int .i64 q], .string s] W (fun e w' => e = .returned (.tuple #[.string nm, .bool true]) ∧ Below W.heap.size W w') by obtain ⟨a, b, c⟩ := child_parent h hs; have h9 := implParentOf_c s (TT.out W hW).1 (TT.out W hW).2 (by rw [Lib.size_eq]; unfold maxLen; omega); rw [a, b, txt_data] at h9; exact h9))
  have FS := hid (fun (h : treeOk L H q = true) => child_sum h)
  have hn8 : n1 ≤ 8 := by rw [HL.out.1]; exact HL.out.2.2
  have hn10 : 1 ≤ n1 := by rw [HL.out.1]; exact HL.out.2.1
  have hN1 := HL.out.1
  replace hN1 := hid hN1
  have CL8 := hid (fun (x : Name) => childrenT_len L H q x)
  have hP8 := childrenT_len L H q nm.data.toList
  generalize hP : childrenT L H q nm.data.toList = P at *
  generalize hok : treeOk L H q = ok at *
  replace hok := hid hok
  clear hP
  go_wp2_with fail
  refine (CI.out _ HW.out).mono ?_
  rintro e w3 ⟨v3, rfl, ho3, hb⟩
  obtain ⟨A3, c3, rfl, hc3, hm3⟩ := (Sl.of_own ho3).form
  have HW3 := hid (HW.out.trans (hb.mono HW.out.size))
  generalize hn3 : P.length = n3 at *
  have O3 := hid ho3
  have HV3 := hid (Below.refl w3.heap.size w3)
  replace hn3 := hid hn3
  clear hb ho3 d0 d1 d2
  obtain ⟨⟨d0, _⟩, ⟨d1, _⟩, ⟨d2, _⟩⟩ := (And.intro ((KB.out.to HW3.out).2 0 _ rfl) (And.intro ((KB.out.to HW3.out).2 1 _ rfl) ((KB.out.to HW3.out).2 2 _ rfl)))
  go_wp2_with fail
  refine (CS.out _ HW3.out).mono ?_
  rintro e w4 ⟨v4, rfl, ho4, hb⟩
  obtain ⟨A4, c4, rfl, hc4, hm4⟩ := (Sl.of_own ho4).form
  have CQ := hid (equalTexts_c _ _ _ _ w4.heap.size P P w4 (((Sl.of_own O3.out).below hb (Nat.le_refl _)).more hb.size) (Sl.of_own ho4) (Nat.le_refl _))
  clear ho4
  clear d0 d1 d2
  have HW4 := hid (HW3.out.trans (hb.mono HW3.out.size))
  have HV4 := hid (HV3.out.trans (hb.mono HV3.out.size))
  clear hb
  obtain ⟨⟨d0, _⟩, ⟨d1, _⟩, ⟨d2, _⟩⟩ := (And.intro ((KB.out.to HW4.out).2 0 _ rfl) (And.intro ((KB.out.to HW4.out).2 1 _ rfl) ((KB.out.to HW4.out).2 2 _ rfl)))
  go_wp2_with fail
  refine CQ.out.mono ?_
  rintro e w5 ⟨rfl, hb⟩
  simp only [decide_true]
  clear d0 d1 d2
  have HW5 := hid (HW4.out.trans (hb.mono HW4.out.size))
  have HV5 := hid (HV4.out.trans (hb.mono HV4.out.size))
  clear hb
  obtain ⟨⟨d0, _⟩, ⟨d1, _⟩, ⟨d2, _⟩⟩ := (And.intro ((KB.out.to HW5.out).2 0 _ rfl) (And.intro ((KB.out.to HW5.out).2 1 _ rfl) ((KB.out.to HW5.out).2 2 _ rfl)))
  go_wp2_with fail
  refine (CT.out _ HW5.out).mono ?_
  rintro e w6 ⟨rfl, hb⟩
  clear d0 d1 d2
  have HW6 := hid (HW5.out.trans (hb.mono HW5.out.size))
  have HV6 := hid (HV5.out.trans (hb.mono HV5.out.size))
  clear hb
  obtain ⟨⟨d0, _⟩, ⟨d1, _⟩, ⟨d2, _⟩⟩ := (And.intro ((KB.out.to HW6.out).2 0 _ rfl) (And.intro ((KB.out.to HW6.out).2 1 _ rfl) ((KB.out.to HW6.out).2 2 _ rfl)))
  cases ok with
  | false =>
    go_wp2_with fail
    refine (CS.out _ HW6.out).mono ?_
    rintro e w7 ⟨v7, rfl, ho7, hb⟩
    obtain ⟨A7, c7, rfl, hc7, hm7⟩ := (Sl.of_own ho7).form
    have CQ7 := hid (equalTexts_c _ _ _ _ w7.heap.size P P w7 ((((Sl.of_own O3.out).below HV6.out (Nat.le_refl _)).more HV6.out.size).below hb (Nat.le_refl _) |>.more hb.size) (Sl.of_own ho7) (Nat.le_refl _))
    clear ho7
    clear d0 d1 d2
    have HW7 := hid (HW6.out.trans (hb.mono HW6.out.size))
    have HV7 := hid (HV6.out.trans (hb.mono HV6.out.size))
    clear hb
    obtain ⟨⟨d0, _⟩, ⟨d1, _⟩, ⟨d2, _⟩⟩ := (And.intro ((KB.out.to HW7.out).2 0 _ rfl) (And.intro ((KB.out.to HW7.out).2 1 _ rfl) ((KB.out.to HW7.out).2 2 _ rfl)))
    go_wp2_with fail
    refine CQ7.out.mono ?_
    rintro e w8 ⟨rfl, hb⟩
    simp only [decide_true]
    clear d0 d1 d2
    have HW8 := hid (HW7.out.trans (hb.mono HW7.out.size))
    have HV8 := hid (HV7.out.trans (hb.mono HV7.out.size))
    clear hb
    obtain ⟨⟨d0, _⟩, ⟨d1, _⟩, ⟨d2, _⟩⟩ := (And.intro ((KB.out.to HW8.out).2 0 _ rfl) (And.intro ((KB.out.to HW8.out).2 1 _ rfl) ((KB.out.to HW8.out).2 2 _ rfl)))
    go_wp2_with fail
    go_ret
    exact ⟨rfl, HB.out.trans (HW8.out.mono HB.out.size)⟩
  | true =>
    replace CP := hid (CP.out (by trivial))
    replace FS := hid (FS.out (by trivial))
    clear d0 d1 d2 CQ
    have d0 := ((KB.out.to HW6.out).2 0 _ rfl).1
    go_wp2_with fail
    go_loopw [6, 7] (fun nv kv wr => ∃ k m : Nat, nv = .int .i64 m ∧ kv = .int .i64 k ∧ k ≤ n1 ∧ m ≤ 8 * k ∧ Hid (m = ((L.take k).map (fun l => (childrenT L H q l.nm).length)).sum) ∧ Hid (Below w2.heap.size w2 wr) ∧ Hid (Below w3.heap.size w3 wr)) (fun _ kv _ => n1 - (intOf kv).toNat)
    case atStart => exact ⟨0, 0, rfl, rfl, Nat.zero_le _, Nat.le_refl _, rfl, HW6.out, HV6.out⟩
    case round =>
      obtain ⟨k, m, rfl, rfl, hk, hmk, HM, HWr, HVr⟩ := hrel
      clear d0
      have d0 := ((KB.out.to HWr.out).2 0 _ rfl).1
      by_cases hkn : k < n1
      · have d1 := ((KB.out.to HWr.out).2 1 _ rfl).1
        have d2 := ((KB.out.to HWr.out).2 2 _ rfl).1
        obtain ⟨b, o, x, s, rfl, hbB, hx, hsx, hsz, c0, _⟩ := (TT.out _ HWr.out).1.name hkn
        have HWd := hid (HWr.out.drew)
        have HVd := hid (HVr.out.drew)
        have C3 := hid (CC.out s wr.drew HWd.out)
        have s0 : (0 : Int) ≤ (k : Int) := by omega
        have s1 : (k : Int) < (n1 : Int) := by omega
        have s2 : ((k : Int)).toNat = k := by simp
        have hc8 := CL8.out s.data.toList
        have HS := hid (show ((L.take (k + 1)).map (fun l => (childrenT L H q l.nm).length)).sum = ((L.take k).map (fun l => (childrenT L H q l.nm).length)).sum + (childrenT L H q s.data.toList).length by rw [List.take_add_one, hx, hsx]; simp)
        clear hx hsx
        go_wp2_with fail
        refine wp_region_held_drew (S := (fun w' : World => (w'.cell? ⟨bb, 0, none⟩ = some (.slice (some ⟨b, o, none⟩) n1 k1) ∧ w'.cell? ⟨bb, 1, none⟩ = some (.slice A2 n2 k2) ∧ w'.cell? ⟨bb, 2, none⟩ = some (.int .i64 q)) ∧ w'.cell? ⟨b, o + k * 6, none⟩ = some (.string s))) (by kernel_rfl) ⟨⟨d0, d1, d2⟩, c0⟩ (fun hS => ?_)
        refine wpAnyH_take (i := 0) (oi := ?oi101) (v := ?v101) ?hi101 (by kernel_rfl) ?hf101 ?hr101 ?hQ101 (Or.inl ⟨?hw101, ?hy101⟩) (by assumption) ?rest101
        case hi101 => simp only [List.getElem?_toArray, List.getElem?_cons_succ, List.getElem?_cons_zero]; rfl
        case hf101 => kernel_rfl
        case hr101 => kernel_rfl
        case hw101 => rfl
        case hy101 => (intro w hSw; (try dsimp only at hSw); go_simp; all_goals (first | done | with_reducible rfl))
        case hQ101 => exact fun _ _ _ h => h
        simp only [Act.put, List.setIfInBounds_toArray, List.set_cons_zero, List.set_cons_succ]
        refine wpAnyH_take (i := 1) (oi := ?oi102) (v := ?v102) ?hi102 (by kernel_rfl) ?hf102 ?hr102 ?hQ102 (Or.inl ⟨?hw102, ?hy102⟩) (by assumption) ?rest102
        case hi102 => simp only [List.getElem?_toArray, List.getElem?_cons_succ, List.getElem?_cons_zero]; rfl
        case hf102 => kernel_rfl
        case hr102 => kernel_rfl
        case hw102 => rfl
        case hy102 => (intro w hSw; (try dsimp only at hSw); go_simp; all_goals (first | done | with_reducible rfl))
        case hQ102 => exact fun _ _ _ h => h
        simp only [Act.put, List.setIfInBounds_toArray, List.set_cons_zero, List.set_cons_succ]
        refine wpAnyH_take (i := 2) (oi := ?oi103) (v := ?v103) ?hi103 (by kernel_rfl) ?hf103 ?hr103 ?hQ103 (Or.inl ⟨?hw103, ?hy103⟩) (by assumption) ?rest103
        case hi103 => simp only [List.getElem?_toArray, List.getElem?_cons_succ, List.getElem?_cons_zero]; rfl
        case hf103 => kernel_rfl
        case hr103 => kernel_rfl
        case hw103 => rfl
        case hy103 => (intro w hSw; (try dsimp only at hSw); go_simp; all_goals (first | done | with_reducible rfl))
        case hQ103 => exact fun _ _ _ h => h
        simp only [Act.put, List.setIfInBounds_toArray, List.set_cons_zero, List.set_cons_succ]
        refine wpAnyH_take (i := 3) (oi := ?oi104) (v := ?v104) ?hi104 (by kernel_rfl) ?hf104 ?hr104 ?hQ104 (Or.inl ⟨?hw104, ?hy104⟩) (by assumption) ?rest104
        case hi104 => simp only [List.getElem?_toArray, List.getElem?_cons_succ, List.getElem?_cons_zero]; rfl
        case hf104 => kernel_rfl
        case hr104 => kernel_rfl
        case hw104 => rfl
        case hy104 => (intro w hSw; (try dsimp only at hSw); go_simp; all_goals (first | done | with_reducible rfl))
        case hQ104 => exact fun _ _ _ h => h
        simp only [Act.put, List.setIfInBounds_toArray, List.set_cons_zero, List.set_cons_succ]
        refine wpAnyH_take (i := 4) (oi := ?oi105) (v := ?v105) ?hi105 (by kernel_rfl) ?hf105 ?hr105 ?hQ105 (Or.inl ⟨?hw105, ?hy105⟩) (by assumption) ?rest105
        case hi105 => simp only [List.getElem?_toArray, List.getElem?_cons_succ, List.getElem?_cons_zero]; rfl
        case hf105 => kernel_rfl
        case hr105 => kernel_rfl
        case hw105 => rfl
        case hy105 => (intro w hSw; (try dsimp only at hSw); go_simp; all_goals (first | done | with_reducible rfl))
        case hQ105 => exact fun _ _ _ h => h
        simp only [Act.put, List.setIfInBounds_toArray, List.set_cons_zero, List.set_cons_succ]
        refine wpAnyH_take (i := 5) (oi := ?oi106) (v := ?v106) ?hi106 (by kernel_rfl) ?hf106 ?hr106 ?hQ106 (Or.inl ⟨?hw106, ?hy106⟩) (by assumption) ?rest106
        case hi106 => simp only [List.getElem?_toArray, List.getElem?_cons_succ, List.getElem?_cons_zero]; rfl
        case hf106 => kernel_rfl
        case hr106 => kernel_rfl
        case hw106 => rfl
        case hy106 => (intro w hSw; (try dsimp only at hSw); go_simp; all_goals (first | done | with_reducible rfl))
        case hQ106 => exact fun _ _ _ h => h
        simp only [Act.put, List.setIfInBounds_toArray, List.set_cons_zero, List.set_cons_succ]
        refine wpAnyH_take (i := 6) (oi := ?oi107) (v := ?v107) ?hi107 (by kernel_rfl) ?hf107 ?hr107 ?hQ107 (Or.inl ⟨?hw107, ?hy107⟩) (by assumption) ?rest107
        case hi107 => simp only [List.getElem?_toArray, List.getElem?_cons_succ, List.getElem?_cons_zero]; rfl
        case hf107 => kernel_rfl
        case hr107 => kernel_rfl
        case hw107 => rfl
        case hy107 => (intro w hSw; (try dsimp only at hSw); go_simp; all_goals (first | done | with_reducible rfl))
        case hQ107 => exact fun _ _ _ h => h
        simp only [Act.put, List.setIfInBounds_toArray, List.set_cons_zero, List.set_cons_succ]
        refine wpAnyH_take (i := 7) (oi := ?oi108) (v := ?v108) ?hi108 (by kernel_rfl) ?hf108 ?hr108 ?hQ108 (Or.inl ⟨?hw108, ?hy108⟩) (by assumption) ?rest108
        case hi108 => simp only [List.getElem?_toArray, List.getElem?_cons_succ, List.getElem?_cons_zero]; rfl
        case hf108 => kernel_rfl
        case hr108 => kernel_rfl
        case hw108 => rfl
        case hy108 => (intro w hSw; (try dsimp only at hSw); go_simp; all_goals (first | done | with_reducible rfl))
        case hQ108 => exact fun _ _ _ h => h
        simp only [Act.put, List.setIfInBounds_toArray, List.set_cons_zero, List.set_cons_succ]
        refine wpAnyH_ready (rs := [8]) (by kernel_rfl) (by simp) ?_
        refine AllReadyH.cons (o := ?oi109) ?hi109 (fun K hK => ?step109) AllReadyH.nil
        case hi109 => simp only [List.getElem?_toArray, List.getElem?_cons_succ, List.getElem?_cons_zero]; rfl
        rw [if_pos (by rfl)]
        go_simp
        go_at_call 30
        refine (C3.out).mono ?_
        rintro e w27 ⟨v27, rfl, ho27, hb⟩
        obtain ⟨A27, c27, rfl, hc27, hm27⟩ := (Sl.of_own ho27).form
        have HW27 := hid (HWd.out.trans (hb.mono HWd.out.size))
        have HV27 := hid (HVd.out.trans (hb.mono HVd.out.size))
        have s7 : w27.cell? ⟨bb, 0, none⟩ = some (.slice (some ⟨b, o, none⟩) n1 k1) ∧ w27.cell? ⟨bb, 1, none⟩ = some (.slice A2 n2 k2) ∧ w27.cell? ⟨bb, 2, none⟩ = some (.int .i64 q) := ⟨((KB.out.to HW27.out).2 0 _ rfl).1, ((KB.out.to HW27.out).2 1 _ rfl).1, ((KB.out.to HW27.out).2 2 _ rfl).1⟩
        have c7 : w27.cell? ⟨b, o + k * 6, none⟩ = some (.string s) := (hb.cell (p := ⟨b, o + k * 6, none⟩) (World.block_lt_of_cell? _ _ c0)).trans c0
        clear hb ho27
        generalize hcn : (childrenT L H q s.data.toList).length = cn at *
        have qw : IntKind.i64.wrap ((m : Int) + (cn : Int)) = (m : Int) + (cn : Int) := by rw [IntKind.wrap_i64]; omega
        replace hcn := hid hcn
        refine hK.out _ _ ⟨s7, c7⟩ (fun hS => ?_)
        refine wpAnyH_take (i := 9) (oi := ?oi110) (v := ?v110) ?hi110 (by kernel_rfl) ?hf110 ?hr110 ?hQ110 (Or.inl ⟨?hw110, ?hy110⟩) (by assumption) ?rest110
        case hi110 => simp only [List.getElem?_toArray, List.getElem?_cons_succ, List.getElem?_cons_zero]; rfl
        case hf110 => kernel_rfl
        case hr110 => kernel_rfl
        case hw110 => rfl
        case hy110 => (intro w hSw; (try dsimp only at hSw); go_simp; all_goals (first | done | with_reducible rfl))
        case hQ110 => exact fun _ _ _ h => h
        simp only [Act.put, List.setIfInBounds_toArray, List.set_cons_zero, List.set_cons_succ]
        refine wpAnyH_take (i := 10) (oi := ?oi111) (v := ?v111) ?hi111 (by kernel_rfl) ?hf111 ?hr111 ?hQ111 (Or.inl ⟨?hw111, ?hy111⟩) (by assumption) ?rest111
        case hi111 => simp only [List.getElem?_toArray, List.getElem?_cons_succ, List.getElem?_cons_zero]; rfl
        case hf111 => kernel_rfl
        case hr111 => kernel_rfl
        case hw111 => rfl
        case hy111 => (intro w hSw; (try dsimp only at hSw); go_simp; all_goals (first | done | with_reducible rfl))
        case hQ111 => exact fun _ _ _ h => h
        simp only [Act.put, List.setIfInBounds_toArray, List.set_cons_zero, List.set_cons_succ]
        refine wpAnyH_take (i := 11) (oi := ?oi112) (v := ?v112) ?hi112 (by kernel_rfl) ?hf112 ?hr112 ?hQ112 (Or.inl ⟨?hw112, ?hy112⟩) (by assumption) ?rest112
        case hi112 => simp only [List.getElem?_toArray, List.getElem?_cons_succ, List.getElem?_cons_zero]; rfl
        case hf112 => kernel_rfl
        case hr112 => kernel_rfl
        case hw112 => rfl
        case hy112 => (intro w hSw; (try dsimp only at hSw); go_simp; all_goals (first | done | with_reducible rfl))
        case hQ112 => exact fun _ _ _ h => h
        simp only [Act.put, List.setIfInBounds_toArray, List.set_cons_zero, List.set_cons_succ]
        refine wpAnyH_done (by kernel_rfl) ?_ _
        clear d0 d1 d2 c0 c7 s7
        go_wp2_with fail
        go_roundw
        case rel => exact ⟨k + 1, m + cn, by go_num, by go_num, by omega, by omega, (by show m + cn = _; have := HS.out; rw [this, ← HM.out]), HW27.out, HV27.out⟩
        case measure => simp [intOf]; omega
      · have hmn : m + 1 = n1 := by
          have h9 := FS.out
          rw [HM.out, List.take_of_length_le (by rw [← hN1.out]; omega), hN1.out]; exact h9
        go_wp2_with fail
        clear d0 HM
        go_loopw [8, 9, 10] (fun iv av bv wr => ∃ (j : Nat) (u9 u10 : Value), iv = .int .i64 j ∧ av = u9 ∧ bv = u10 ∧ j ≤ n3 ∧ Hid (Below w2.heap.size w2 wr) ∧ Hid (Below w3.heap.size w3 wr)) (fun iv _ _ _ => n3 - (intOf iv).toNat)
        case atStart => exact ⟨0, _, _, rfl, rfl, rfl, Nat.zero_le _, HWr.out, HVr.out⟩
        case round =>
          obtain ⟨j, u9, u10, rfl, rfl, rfl, hjm, HWs, HVs⟩ := hrel
          have d0 := ((KB.out.to HWs.out).2 0 _ rfl).1
          have d1 := ((KB.out.to HWs.out).2 1 _ rfl).1
          have d2 := ((KB.out.to HWs.out).2 2 _ rfl).1
          by_cases hjn : j < n3
          · obtain ⟨y, hy⟩ : ∃ y, P[j]? = some y := ⟨_, List.getElem?_eq_getElem (by have := hn3.out; omega)⟩
            obtain ⟨sy, hsy1, hsy2⟩ : ∃ sy : ByteArray, txt y = .string sy ∧ sy.data.toList = y := ⟨⟨y.toArray⟩, rfl, by simp⟩
            obtain ⟨g3, rfl, hg3⟩ := own_some O3.out (by omega)
            have cy : wr.cell? ⟨g3, j, none⟩ = some (.string sy) := by
              have h9 := O3.out.cellAt j (by omega)
              rw [List.getElem?_map, hy] at h9
              rw [← hsy1]
              exact (HVs.out.cell (p := ⟨g3, j, none⟩) (O3.out.lt g3 rfl).2).trans h9
            have C4 := hid (CP.out sy (by rw [hsy2]; exact List.mem_of_getElem? hy))
            have s0 : (0 : Int) ≤ (j : Int) := by omega
            have s1 : (j : Int) < (n3 : Int) := by omega
            have s2 : ((j : Int)).toNat = j := by simp
            have en := eq_true_of (a := nm) (b := nm) rfl
            have HWd := hid (HWs.out.drew)
            have HVd := hid (HVs.out.drew)
            clear hy hsy1 hsy2
            go_wp2_with fail
            refine wp_region_held_drew (S := (fun w' : World => (w'.cell? ⟨bb, 0, none⟩ = some (.slice A1 n1 k1) ∧ w'.cell? ⟨bb, 1, none⟩ = some (.slice A2 n2 k2) ∧ w'.cell? ⟨bb, 2, none⟩ = some (.int .i64 q)) ∧ w'.cell? ⟨g3, j, none⟩ = some (.string sy))) (by kernel_rfl) ⟨⟨d0, d1, d2⟩, cy⟩ (fun hS => ?_)
            refine wpAnyH_take (i := 0) (oi := ?oi113) (v := ?v113) ?hi113 (by kernel_rfl) ?hf113 ?hr113 ?hQ113 (Or.inl ⟨?hw113, ?hy113⟩) (by assumption) ?rest113
            case hi113 => simp only [List.getElem?_toArray, List.getElem?_cons_succ, List.getElem?_cons_zero]; rfl
            case hf113 => kernel_rfl
            case hr113 => kernel_rfl
            case hw113 => rfl
            case hy113 => (intro w hSw; (try dsimp only at hSw); go_simp; all_goals (first | done | with_reducible rfl))
            case hQ113 => exact fun _ _ _ h => h
            simp only [Act.put, List.setIfInBounds_toArray, List.set_cons_zero, List.set_cons_succ]
            refine wpAnyH_take (i := 1) (oi := ?oi114) (v := ?v114) ?hi114 (by kernel_rfl) ?hf114 ?hr114 ?hQ114 (Or.inl ⟨?hw114, ?hy114⟩) (by assumption) ?rest114
            case hi114 => simp only [List.getElem?_toArray, List.getElem?_cons_succ, List.getElem?_cons_zero]; rfl
            case hf114 => kernel_rfl
            case hr114 => kernel_rfl
            case hw114 => rfl
            case hy114 => (intro w hSw; (try dsimp only at hSw); go_simp; all_goals (first | done | with_reducible rfl))
            case hQ114 => exact fun _ _ _ h => h
            simp only [Act.put, List.setIfInBounds_toArray, List.set_cons_zero, List.set_cons_succ]
            refine wpAnyH_take (i := 2) (oi := ?oi115) (v := ?v115) ?hi115 (by kernel_rfl) ?hf115 ?hr115 ?hQ115 (Or.inl ⟨?hw115, ?hy115⟩) (by assumption) ?rest115
            case hi115 => simp only [List.getElem?_toArray, List.getElem?_cons_succ, List.getElem?_cons_zero]; rfl
            case hf115 => kernel_rfl
            case hr115 => kernel_rfl
            case hw115 => rfl
            case hy115 => (intro w hSw; (try dsimp only at hSw); go_simp; all_goals (first | done | with_reducible rfl))
            case hQ115 => exact fun _ _ _ h => h
            simp only [Act.put, List.setIfInBounds_toArray, List.set_cons_zero, List.set_cons_succ]
            refine wpAnyH_take (i := 3) (oi := ?oi116) (v := ?v116) ?hi116 (by kernel_rfl) ?hf116 ?hr116 ?hQ116 (Or.inl ⟨?hw116, ?hy116⟩) (by assumption) ?rest116
            case hi116 => simp only [List.getElem?_toArray, List.getElem?_cons_succ, List.getElem?_cons_zero]; rfl
            case hf116 => kernel_rfl
            case hr116 => kernel_rfl
            case hw116 => rfl
            case hy116 => (intro w hSw; (try dsimp only at hSw); go_simp; all_goals (first | done | with_reducible rfl))
            case hQ116 => exact fun _ _ _ h => h
            simp only [Act.put, List.setIfInBounds_toArray, List.set_cons_zero, List.set_cons_succ]
            refine wpAnyH_take (i := 4) (oi := ?oi117) (v := ?v117) ?hi117 (by kernel_rfl) ?hf117 ?hr117 ?hQ117 (Or.inl ⟨?hw117, ?hy117⟩) (by assumption) ?rest117
            case hi117 => simp only [List.getElem?_toArray, List.getElem?_cons_succ, List.getElem?_cons_zero]; rfl
            case hf117 => kernel_rfl
            case hr117 => kernel_rfl
            case hw117 => rfl
            case hy117 => (intro w hSw; (try dsimp only at hSw); go_simp; all_goals (first | done | with_reducible rfl))
            case hQ117 => exact fun _ _ _ h => h
            simp only [Act.put, List.setIfInBounds_toArray, List.set_cons_zero, List.set_cons_succ]
            refine wpAnyH_ready (rs := [5]) (by kernel_rfl) (by simp) ?_
            refine AllReadyH.cons (o := ?oi118) ?hi118 (fun K hK => ?step118) AllReadyH.nil
            case hi118 => simp only [List.getElem?_toArray, List.getElem?_cons_succ, List.getElem?_cons_zero]; rfl
            rw [if_pos (by rfl)]
            go_simp
            go_at_call 27
            refine (C4.out _ HWd.out).mono ?_
            rintro e w28 ⟨rfl, hb⟩
            have HW28 := hid (HWd.out.trans (hb.mono HWd.out.size))
            have HV28 := hid (HVd.out.trans (hb.mono HVd.out.size))
            have s28 : w28.cell? ⟨bb, 0, none⟩ = some (.slice A1 n1 k1) ∧ w28.cell? ⟨bb, 1, none⟩ = some (.slice A2 n2 k2) ∧ w28.cell? ⟨bb, 2, none⟩ = some (.int .i64 q) := ⟨((KB.out.to HW28.out).2 0 _ rfl).1, ((KB.out.to HW28.out).2 1 _ rfl).1, ((KB.out.to HW28.out).2 2 _ rfl).1⟩
            have c28 := (hb.cell (p := ⟨g3, j, none⟩) (World.block_lt_of_cell? _ _ cy)).trans cy
            clear hb
            refine hK.out _ _ ⟨s28, c28⟩ (fun hS => ?_)
            refine wpAnyH_take (i := 6) (oi := ?oi119) (v := ?v119) ?hi119 (by kernel_rfl) ?hf119 ?hr119 ?hQ119 (Or.inl ⟨?hw119, ?hy119⟩) (by assumption) ?rest119
            case hi119 => simp only [List.getElem?_toArray, List.getElem?_cons_succ, List.getElem?_cons_zero]; rfl
            case hf119 => kernel_rfl
            case hr119 => kernel_rfl
            case hw119 => rfl
            case hy119 => (intro w hSw; (try dsimp only at hSw); go_simp; all_goals (first | done | with_reducible rfl))
            case hQ119 => exact fun _ _ _ h => h
            simp only [Act.put, List.setIfInBounds_toArray, List.set_cons_zero, List.set_cons_succ]
            refine wpAnyH_take (i := 7) (oi := ?oi120) (v := ?v120) ?hi120 (by kernel_rfl) ?hf120 ?hr120 ?hQ120 (Or.inl ⟨?hw120, ?hy120⟩) (by assumption) ?rest120
            case hi120 => simp only [List.getElem?_toArray, List.getElem?_cons_succ, List.getElem?_cons_zero]; rfl
            case hf120 => kernel_rfl
            case hr120 => kernel_rfl
            case hw120 => rfl
            case hy120 => (intro w hSw; (try dsimp only at hSw); go_simp; all_goals (first | done | with_reducible rfl))
            case hQ120 => exact fun _ _ _ h => h
            simp only [Act.put, List.setIfInBounds_toArray, List.set_cons_zero, List.set_cons_succ]
            refine wpAnyH_take (i := 8) (oi := ?oi121) (v := ?v121) ?hi121 (by kernel_rfl) ?hf121 ?hr121 ?hQ121 (Or.inl ⟨?hw121, ?hy121⟩) (by assumption) ?rest121
            case hi121 => simp only [List.getElem?_toArray, List.getElem?_cons_succ, List.getElem?_cons_zero]; rfl
            case hf121 => kernel_rfl
            case hr121 => kernel_rfl
            case hw121 => rfl
            case hy121 => (intro w hSw; (try dsimp only at hSw); go_simp; all_goals (first | done | with_reducible rfl))
            case hQ121 => exact fun _ _ _ h => h
            simp only [Act.put, List.setIfInBounds_toArray, List.set_cons_zero, List.set_cons_succ]
            refine wpAnyH_take (i := 9) (oi := ?oi122) (v := ?v122) ?hi122 (by kernel_rfl) ?hf122 ?hr122 ?hQ122 (Or.inl ⟨?hw122, ?hy122⟩) (by assumption) ?rest122
            case hi122 => simp only [List.getElem?_toArray, List.getElem?_cons_succ, List.getElem?_cons_zero]; rfl
            case hf122 => kernel_rfl
            case hr122 => kernel_rfl
            case hw122 => rfl
            case hy122 => (intro w hSw; (try dsimp only at hSw); go_simp; all_goals (first | done | with_reducible rfl))
            case hQ122 => exact fun _ _ _ h => h
            simp only [Act.put, List.setIfInBounds_toArray, List.set_cons_zero, List.set_cons_succ]
            refine wpAnyH_take (i := 10) (oi := ?oi123) (v := ?v123) ?hi123 (by kernel_rfl) ?hf123 ?hr123 ?hQ123 (Or.inl ⟨?hw123, ?hy123⟩) (by assumption) ?rest123
            case hi123 => simp only [List.getElem?_toArray, List.getElem?_cons_succ, List.getElem?_cons_zero]; rfl
            case hf123 => kernel_rfl
            case hr123 => kernel_rfl
            case hw123 => rfl
            case hy123 => (intro w hSw; (try dsimp only at hSw); go_simp; all_goals (first | done | with_reducible rfl))
            case hQ123 => exact fun _ _ _ h => h
            simp only [Act.put, List.setIfInBounds_toArray, List.set_cons_zero, List.set_cons_succ]
            refine wpAnyH_done (by kernel_rfl) ?_ _
            clear cy d0 d1 d2 s28 c28
            go_wp2_with fail
            go_roundw
            case rel => exact ⟨j + 1, _, _, by go_num, rfl, rfl, by omega, HW28.out, HV28.out⟩
            case measure => simp [intOf]; omega
          · have q1 : IntKind.i64.wrap ((n1 : Int) - 1) = (n1 : Int) - 1 := by rw [IntKind.wrap_i64]; omega
            have q2 : (m : Int) = (n1 : Int) - 1 := by omega
            have q3 : ((m : Int) == (n1 : Int) - 1) = true := by simpa using q2
            replace q2 := hid q2
            go_wp2_with fail
            go_ret
            exact ⟨rfl, HB.out.trans (HWs.out.mono HB.out.size)⟩
end Go.Proofs.Yteammkclbgniiaa
