/-
  WALK: the law FnParentOf. By gen_t.py.
-/
import Derived.Test.YteammkclbgniiaaE8
namespace Go.Proofs.Yteammkclbgniiaa
open Go.RowKit Nm
set_option linter.unusedSimpArgs false
set_option linter.unusedVariables false

set_option maxHeartbeats 8000000 in
set_option maxRecDepth 100000 in
theorem walk_FnParentOf (a0 : Option Addr) (len0 cap0 : Nat) (z0 : List Int) (w : World) (w0 : IsRow .u8 w a0 len0 cap0 z0) :
    Calls Try.prog 7 #[.slice a0 len0 cap0] w (BoolPost w true) := by
  have hb0 := w0.leT
  by_cases h1 : (1048576 : Int) < (len0 : Int)
  · go_enter Try.func7, Try.ntmps7
    go_wp2_with fail
    go_ret
    exact ⟨rfl, Below.refl _ _⟩
  have DR := hid (drawParentOf_c a0 len0 cap0 z0 w w0)
  clear w0
  go_enter Try.func7, Try.ntmps7
  go_wp2_with fail
  refine DR.out.mono ?_
  rintro e w1 ⟨v, rs, L, H, q, nm, rfl, hs, hsm, hnm, hr, hb⟩
  obtain ⟨A1, n1, k1, A2, n2, k2, rfl, hn1, hn2⟩ := hs.form_ hr
  have hd := sm_fit hsm (by omega)
  have TI0 := hs.at_ hr hd
  have hbx : Below w1.heap.size w1 (w1.alloc (.cells #[.slice A1 n1 k1, .slice A2 n2 k2, .int .i64 q] 26)) := (Below.refl _ _).alloc (Nat.le_refl _) _
  have TI := hid (TI0.below hbx (Nat.le_refl _))
  have KB := hid (Blk.new w1 #[.slice A1 n1 k1, .slice A2 n2 k2, .int .i64 q] 26)
  have HB := hid (hb.trans (hbx.mono hb.size))
  have hl1 : w1.heap.size < (w1.alloc (.cells #[.slice A1 n1 k1, .slice A2 n2 k2, .int .i64 q] 26)).heap.size := by simp
  have HL := hid (And.intro hn1 (And.intro hsm.1 hsm.2.1.1))
  replace hd := hid hd
  clear hs hr hb hn1 hn2 hsm TI0 hbx DR
  go_wp2_with fail
  generalize hbb : w1.heap.size = bb at *
  generalize w1.alloc (.cells #[.slice A1 n1 k1, .slice A2 n2 k2, .int .i64 q] 26) = w2 at *
  clear hbb
  have d0 := (KB.out.2 0 _ rfl).1
  have d1 := (KB.out.2 1 _ rfl).1
  have d2 := (KB.out.2 2 _ rfl).1
  have HW := hid (Below.refl w2.heap.size w2)
  have TT := hid (fun (W : World) (hW : Below w2.heap.size w2 W) => (And.intro (TI.out.below hW (Nat.le_of_lt hl1)) (Nat.le_trans (Nat.le_of_lt hl1) hW.size)))
  have CI := hid (fun (W : World) (hW : Below w2.heap.size w2 W) => implParentOf_c nm (TT.out W hW).1 (TT.out W hW).2 (by unfold maxLen; omega))
  have CS := hid (fun (W : World) (hW : Below w2.heap.size w2 W) => specParentOf_c nm (TT.out W hW).1 (TT.out W hW).2 (by unfold maxTxt; omega))
  have CP := hid (fun (W : World) (hW : Below w2.heap.size w2 W) => implPathOf_c nm (TT.out W hW).1 (TT.out W hW).2 (by unfold maxLen; omega))
  obtain ⟨up, hup1, hup2⟩ : ∃ up : ByteArray, txt (parentT L H q nm.data.toList) = .string up ∧ up.data.toList = parentT L H q nm.data.toList := ⟨⟨(parentT L H q nm.data.toList).toArray⟩, rfl, by simp⟩
  have FX := hid (fun (h : parentB L H q nm.data.toList = true) => parent_facts h)
  have CU := hid (fun (hz : up.size ≤ maxLen) (W : World) (hW : Below w2.heap.size w2 W) => And.intro (implPathOf_c up (TT.out W hW).1 (TT.out W hW).2 hz) (implChildrenOf_c up (TT.out W hW).1 (TT.out W hW).2))
  rw [hup1] at CI CS
  rw [← hup2] at FX
  replace FX := hid FX.out
  have ee := eq_true_of (a := up) (b := up) rfl
  clear hup1 hup2
  generalize parentB L H q nm.data.toList = ok at *
  have b0 : (ok != ok) = false := by simp
  have b1 : (ok == ok) = true := by simp
  go_wp2_with fail
  refine (CI.out _ HW.out).mono ?_
  rintro e w3 ⟨rfl, hb⟩
  replace HW := hid (HW.out.trans (hb.mono HW.out.size))
  clear hb d0 d1 d2
  obtain ⟨⟨d0, _⟩, ⟨d1, _⟩, ⟨d2, _⟩⟩ := (And.intro ((KB.out.to HW.out).2 0 _ rfl) (And.intro ((KB.out.to HW.out).2 1 _ rfl) ((KB.out.to HW.out).2 2 _ rfl)))
  go_wp2_with fail
  refine (CS.out _ HW.out).mono ?_
  rintro e w4 ⟨rfl, hb⟩
  replace HW := hid (HW.out.trans (hb.mono HW.out.size))
  clear hb d0 d1 d2
  obtain ⟨⟨d0, _⟩, ⟨d1, _⟩, ⟨d2, _⟩⟩ := (And.intro ((KB.out.to HW.out).2 0 _ rfl) (And.intro ((KB.out.to HW.out).2 1 _ rfl) ((KB.out.to HW.out).2 2 _ rfl)))
  cases ok with
  | false =>
    go_wp2_with fail
    go_ret
    exact ⟨rfl, HB.out.trans (HW.out.mono HB.out.size)⟩
  | true =>
    obtain ⟨F1, F2, F3, F4⟩ := FX.out (by trivial)
    have huz : up.size ≤ maxLen := by rw [Lib.size_eq]; have := F3; unfold maxLen; omega
    replace CU := hid (CU.out huz)
    rw [F1] at CP
    clear F1 F3
    go_wp2_with fail
    refine (CP.out _ HW.out).mono ?_
    rintro e w6 ⟨v6, rfl, ho6, hb⟩
    obtain ⟨A6, c6, rfl, hc6, hm6⟩ := (Sl.of_own ho6).form
    obtain ⟨g6, rfl, hg6⟩ := own_some ho6 (by simp)
    have HW6 := hid (HW.out.trans (hb.mono HW.out.size))
    obtain ⟨n6, hn6⟩ : ∃ n6, (nm.data.toList :: pathT L H q up.data.toList).length = n6 := ⟨_, rfl⟩
    rw [hn6] at ho6 hc6
    have hn61 : n6 = (pathT L H q up.data.toList).length + 1 := by rw [← hn6]; rfl
    have O6 := hid ho6
    have c0 : w6.cell? ⟨g6, 0, none⟩ = some (.string nm) := by have h9 := ho6.cellAt 0 (by omega); simpa [txt_data] using h9
    have SB6 := hid ((Sl.of_own ho6).from_ (k := 1) (by omega))
    clear hb d0 d1 d2 ho6
    have s6 : w6.drew.cell? ⟨bb, 0, none⟩ = some (.slice A1 n1 k1) ∧ w6.drew.cell? ⟨bb, 1, none⟩ = some (.slice A2 n2 k2) ∧ w6.drew.cell? ⟨bb, 2, none⟩ = some (.int .i64 q) := ⟨((KB.out.to HW6.out).2 0 _ rfl).1, ((KB.out.to HW6.out).2 1 _ rfl).1, ((KB.out.to HW6.out).2 2 _ rfl).1⟩
    have c0d : w6.drew.cell? ⟨g6, 0, none⟩ = some (.string nm) := c0
    have HW6d := hid (HW6.out.drew)
    have q1 : (1 : Int) ≤ (n6 : Int) := by omega
    have q2 : (n6 : Int) ≤ (c6 : Int) := by omega
    have q3 : 1 ≤ n6 := by omega
    have en := eq_true_of (a := nm) (b := nm) rfl
    rw [hn6]
    have q4 : ¬ c6 = 1 := by omega
    have q6 : 0 < n6 := by omega
    have q5 : (1 : Int) ≤ (c6 : Int) := by omega
    replace hn61 := hid hn61
    clear hn6
    go_wp2_with fail
    refine wp_region_held_drew (S := (fun w' : World => (w'.cell? ⟨bb, 0, none⟩ = some (.slice A1 n1 k1) ∧ w'.cell? ⟨bb, 1, none⟩ = some (.slice A2 n2 k2) ∧ w'.cell? ⟨bb, 2, none⟩ = some (.int .i64 q)) ∧ w'.cell? ⟨g6, 0, none⟩ = some (.string nm))) (by kernel_rfl) ⟨s6, c0d⟩ (fun hS => ?_)
    refine wpAnyH_take (i := 0) (oi := ?oi101) (v := ?v101) ?hi101 (by kernel_rfl) ?hf101 ?hr101 ?hQ101 (Or.inl ⟨?hw101, ?hy101⟩) (by assumption) ?rest101
    case hi101 => simp only [List.getElem?_toArray, List.getElem?_cons_succ, List.getElem?_cons_zero]; rfl
    case hf101 => kernel_rfl
    case hr101 => kernel_rfl
    case hw101 => rfl
    case hy101 => (intro w hSw; (try dsimp only at hSw); go_simp; all_goals (first | done | with_reducible rfl))
    case hQ101 => exact fun _ _ _ h => h
    simp only [Act.put, List.setIfInBounds_toArray, List.set_cons_zero, List.set_cons_succ]
    refine wpAnyH_take (i := 1) (oi := ?oi102) (v := ?v102) ?hi102 (by kernel_rfl) ?hf102 ?hr102 ?hQ102 (Or.inl ⟨?hw102, ?hy102⟩) (by assumption) ?rest102
    case hi102 => simp only [List.getElem?_toArray, List.getElem?_cons_succ, List.getElem?_cons_zero]; rfl
    case hf102 => kernel_rfl
    case hr102 => kernel_rfl
    case hw102 => rfl
    case hy102 => (intro w hSw; (try dsimp only at hSw); go_simp; all_goals (first | done | with_reducible rfl))
    case hQ102 => exact fun _ _ _ h => h
    simp only [Act.put, List.setIfInBounds_toArray, List.set_cons_zero, List.set_cons_succ]
    refine wpAnyH_take (i := 2) (oi := ?oi103) (v := ?v103) ?hi103 (by kernel_rfl) ?hf103 ?hr103 ?hQ103 (Or.inl ⟨?hw103, ?hy103⟩) (by assumption) ?rest103
    case hi103 => simp only [List.getElem?_toArray, List.getElem?_cons_succ, List.getElem?_cons_zero]; rfl
    case hf103 => kernel_rfl
    case hr103 => kernel_rfl
    case hw103 => rfl
    case hy103 => (intro w hSw; (try dsimp only at hSw); go_simp; all_goals (first | done | with_reducible rfl))
    case hQ103 => exact fun _ _ _ h => h
    simp only [Act.put, List.setIfInBounds_toArray, List.set_cons_zero, List.set_cons_succ]
    refine wpAnyH_take (i := 3) (oi := ?oi104) (v := ?v104) ?hi104 (by kernel_rfl) ?hf104 ?hr104 ?hQ104 (Or.inl ⟨?hw104, ?hy104⟩) (by assumption) ?rest104
    case hi104 => simp only [List.getElem?_toArray, List.getElem?_cons_succ, List.getElem?_cons_zero]; rfl
    case hf104 => kernel_rfl
    case hr104 => kernel_rfl
    case hw104 => rfl
    case hy104 => (intro w hSw; (try dsimp only at hSw); go_simp; all_goals (first | done | with_reducible rfl))
    case hQ104 => exact fun _ _ _ h => h
    simp only [Act.put, List.setIfInBounds_toArray, List.set_cons_zero, List.set_cons_succ]
    refine wpAnyH_ready (rs := [4]) (by kernel_rfl) (by simp) ?_
    refine AllReadyH.cons (o := ?oi105) ?hi105 (fun K hK => ?step105) AllReadyH.nil
    case hi105 => simp only [List.getElem?_toArray, List.getElem?_cons_succ, List.getElem?_cons_zero]; rfl
    rw [if_pos (by rfl)]
    go_simp
    go_at_call 23
    refine ((CU.out _ HW6d.out).1).mono ?_
    rintro e w7 ⟨v7, rfl, ho7, hb⟩
    obtain ⟨A7, c7, rfl, hc7, hm7⟩ := (Sl.of_own ho7).form
    have HW7 := hid (HW6d.out.trans (hb.mono HW6d.out.size))
    have s7 : w7.cell? ⟨bb, 0, none⟩ = some (.slice A1 n1 k1) ∧ w7.cell? ⟨bb, 1, none⟩ = some (.slice A2 n2 k2) ∧ w7.cell? ⟨bb, 2, none⟩ = some (.int .i64 q) := ⟨((KB.out.to HW7.out).2 0 _ rfl).1, ((KB.out.to HW7.out).2 1 _ rfl).1, ((KB.out.to HW7.out).2 2 _ rfl).1⟩
    have c7c : w7.cell? ⟨g6, 0, none⟩ = some (.string nm) := (hb.cell (p := ⟨g6, 0, none⟩) hg6).trans c0d
    have CQ := hid (equalTexts_c (.slice (some ⟨g6, 1, none⟩) (n6 - 1) (c6 - 1)) _ (n6 - 1) _ w7.heap.size (pathT L H q up.data.toList) (pathT L H q up.data.toList) w7 (by have h9 := (SB6.out.below (w' := w6.drew) ((Below.refl _ _).drew) (Nat.le_refl _)).below hb (Nat.le_refl _); exact (by simpa using h9.more (B' := w7.heap.size) hb.size)) (Sl.of_own ho7) (Nat.le_refl _))
    have hl7 : g6 < w7.heap.size := Nat.lt_of_lt_of_le hg6 hb.size
    clear hb ho7
    refine hK.out _ _ ⟨s7, c7c⟩ (fun hS => ?_)
    refine wpAnyH_ready (rs := [5]) (by kernel_rfl) (by simp) ?_
    refine AllReadyH.cons (o := ?oi106) ?hi106 (fun K hK => ?step106) AllReadyH.nil
    case hi106 => simp only [List.getElem?_toArray, List.getElem?_cons_succ, List.getElem?_cons_zero]; rfl
    rw [if_pos (by rfl)]
    go_simp
    go_at_call 24
    refine (CQ.out).mono ?_
    rintro e w8 ⟨rfl, hb⟩
    have HW8 := hid (HW7.out.trans (hb.mono HW7.out.size))
    have s8 : w8.cell? ⟨bb, 0, none⟩ = some (.slice A1 n1 k1) ∧ w8.cell? ⟨bb, 1, none⟩ = some (.slice A2 n2 k2) ∧ w8.cell? ⟨bb, 2, none⟩ = some (.int .i64 q) := ⟨((KB.out.to HW8.out).2 0 _ rfl).1, ((KB.out.to HW8.out).2 1 _ rfl).1, ((KB.out.to HW8.out).2 2 _ rfl).1⟩
    have c8c : w8.cell? ⟨g6, 0, none⟩ = some (.string nm) := (hb.cell (p := ⟨g6, 0, none⟩) hl7).trans c7c
    have hl8 : g6 < w8.heap.size := Nat.lt_of_lt_of_le hl7 hb.size
    clear hb
    refine hK.out _ _ ⟨s8, c8c⟩ (fun hS => ?_)
    simp only [decide_true]
    refine wpAnyH_take (i := 6) (oi := ?oi107) (v := ?v107) ?hi107 (by kernel_rfl) ?hf107 ?hr107 ?hQ107 (Or.inl ⟨?hw107, ?hy107⟩) (by assumption) ?rest107
    case hi107 => simp only [List.getElem?_toArray, List.getElem?_cons_succ, List.getElem?_cons_zero]; rfl
    case hf107 => kernel_rfl
    case hr107 => kernel_rfl
    case hw107 => rfl
    case hy107 => (intro w hSw; (try dsimp only at hSw); go_simp; all_goals (first | done | with_reducible rfl))
    case hQ107 => exact fun _ _ _ h => h
    simp only [Act.put, List.setIfInBounds_toArray, List.set_cons_zero, List.set_cons_succ]
    refine wpAnyH_take (i := 7) (oi := ?oi108) (v := ?v108) ?hi108 (by kernel_rfl) ?hf108 ?hr108 ?hQ108 (Or.inl ⟨?hw108, ?hy108⟩) (by assumption) ?rest108
    case hi108 => simp only [List.getElem?_toArray, List.getElem?_cons_succ, List.getElem?_cons_zero]; rfl
    case hf108 => kernel_rfl
    case hr108 => kernel_rfl
    case hw108 => rfl
    case hy108 => (intro w hSw; (try dsimp only at hSw); go_simp; all_goals (first | done | with_reducible rfl))
    case hQ108 => exact fun _ _ _ h => h
    simp only [Act.put, List.setIfInBounds_toArray, List.set_cons_zero, List.set_cons_succ]
    refine wpAnyH_take (i := 8) (oi := ?oi109) (v := ?v109) ?hi109 (by kernel_rfl) ?hf109 ?hr109 ?hQ109 (Or.inl ⟨?hw109, ?hy109⟩) (by assumption) ?rest109
    case hi109 => simp only [List.getElem?_toArray, List.getElem?_cons_succ, List.getElem?_cons_zero]; rfl
    case hf109 => kernel_rfl
    case hr109 => kernel_rfl
    case hw109 => rfl
    case hy109 => (intro w hSw; (try dsimp only at hSw); go_simp; all_goals (first | done | with_reducible rfl))
    case hQ109 => exact fun _ _ _ h => h
    simp only [Act.put, List.setIfInBounds_toArray, List.set_cons_zero, List.set_cons_succ]
    refine wpAnyH_take (i := 9) (oi := ?oi110) (v := ?v110) ?hi110 (by kernel_rfl) ?hf110 ?hr110 ?hQ110 (Or.inl ⟨?hw110, ?hy110⟩) (by assumption) ?rest110
    case hi110 => simp only [List.getElem?_toArray, List.getElem?_cons_succ, List.getElem?_cons_zero]; rfl
    case hf110 => kernel_rfl
    case hr110 => kernel_rfl
    case hw110 => rfl
    case hy110 => (intro w hSw; (try dsimp only at hSw); go_simp; all_goals (first | done | with_reducible rfl))
    case hQ110 => exact fun _ _ _ h => h
    simp only [Act.put, List.setIfInBounds_toArray, List.set_cons_zero, List.set_cons_succ]
    refine wpAnyH_take (i := 10) (oi := ?oi111) (v := ?v111) ?hi111 (by kernel_rfl) ?hf111 ?hr111 ?hQ111 (Or.inl ⟨?hw111, ?hy111⟩) (by assumption) ?rest111
    case hi111 => simp only [List.getElem?_toArray, List.getElem?_cons_succ, List.getElem?_cons_zero]; rfl
    case hf111 => kernel_rfl
    case hr111 => kernel_rfl
    case hw111 => rfl
    case hy111 => (intro w hSw; (try dsimp only at hSw); go_simp; all_goals (first | done | with_reducible rfl))
    case hQ111 => exact fun _ _ _ h => h
    simp only [Act.put, List.setIfInBounds_toArray, List.set_cons_zero, List.set_cons_succ]
    refine wpAnyH_take (i := 11) (oi := ?oi112) (v := ?v112) ?hi112 (by kernel_rfl) ?hf112 ?hr112 ?hQ112 (Or.inl ⟨?hw112, ?hy112⟩) (by assumption) ?rest112
    case hi112 => simp only [List.getElem?_toArray, List.getElem?_cons_succ, List.getElem?_cons_zero]; rfl
    case hf112 => kernel_rfl
    case hr112 => kernel_rfl
    case hw112 => rfl
    case hy112 => (intro w hSw; (try dsimp only at hSw); go_simp; all_goals (first | done | with_reducible rfl))
    case hQ112 => exact fun _ _ _ h => h
    simp only [Act.put, List.setIfInBounds_toArray, List.set_cons_zero, List.set_cons_succ]
    refine wpAnyH_take (i := 12) (oi := ?oi113) (v := ?v113) ?hi113 (by kernel_rfl) ?hf113 ?hr113 ?hQ113 (Or.inl ⟨?hw113, ?hy113⟩) (by assumption) ?rest113
    case hi113 => simp only [List.getElem?_toArray, List.getElem?_cons_succ, List.getElem?_cons_zero]; rfl
    case hf113 => kernel_rfl
    case hr113 => kernel_rfl
    case hw113 => rfl
    case hy113 => (intro w hSw; (try dsimp only at hSw); go_simp; all_goals (first | done | with_reducible rfl))
    case hQ113 => exact fun _ _ _ h => h
    simp only [Act.put, List.setIfInBounds_toArray, List.set_cons_zero, List.set_cons_succ]
    refine wpAnyH_take (i := 13) (oi := ?oi114) (v := ?v114) ?hi114 (by kernel_rfl) ?hf114 ?hr114 ?hQ114 (Or.inl ⟨?hw114, ?hy114⟩) (by assumption) ?rest114
    case hi114 => simp only [List.getElem?_toArray, List.getElem?_cons_succ, List.getElem?_cons_zero]; rfl
    case hf114 => kernel_rfl
    case hr114 => kernel_rfl
    case hw114 => rfl
    case hy114 => (intro w hSw; (try dsimp only at hSw); go_simp; all_goals (first | done | with_reducible rfl))
    case hQ114 => exact fun _ _ _ h => h
    simp only [Act.put, List.setIfInBounds_toArray, List.set_cons_zero, List.set_cons_succ]
    refine wpAnyH_take (i := 14) (oi := ?oi115) (v := ?v115) ?hi115 (by kernel_rfl) ?hf115 ?hr115 ?hQ115 (Or.inl ⟨?hw115, ?hy115⟩) (by assumption) ?rest115
    case hi115 => simp only [List.getElem?_toArray, List.getElem?_cons_succ, List.getElem?_cons_zero]; rfl
    case hf115 => kernel_rfl
    case hr115 => kernel_rfl
    case hw115 => rfl
    case hy115 => (intro w hSw; (try dsimp only at hSw); go_simp; all_goals (first | done | with_reducible rfl))
    case hQ115 => exact fun _ _ _ h => h
    simp only [Act.put, List.setIfInBounds_toArray, List.set_cons_zero, List.set_cons_succ]
    refine wpAnyH_take (i := 15) (oi := ?oi116) (v := ?v116) ?hi116 (by kernel_rfl) ?hf116 ?hr116 ?hQ116 (Or.inl ⟨?hw116, ?hy116⟩) (by assumption) ?rest116
    case hi116 => simp only [List.getElem?_toArray, List.getElem?_cons_succ, List.getElem?_cons_zero]; rfl
    case hf116 => kernel_rfl
    case hr116 => kernel_rfl
    case hw116 => rfl
    case hy116 => (intro w hSw; (try dsimp only at hSw); go_simp; all_goals (first | done | with_reducible rfl))
    case hQ116 => exact fun _ _ _ h => h
    simp only [Act.put, List.setIfInBounds_toArray, List.set_cons_zero, List.set_cons_succ]
    refine wpAnyH_take (i := 17) (oi := ?oi117) (v := ?v117) ?hi117 (by kernel_rfl) ?hf117 ?hr117 ?hQ117 (Or.inl ⟨?hw117, ?hy117⟩) (by assumption) ?rest117
    case hi117 => simp only [List.getElem?_toArray, List.getElem?_cons_succ, List.getElem?_cons_zero]; rfl
    case hf117 => kernel_rfl
    case hr117 => kernel_rfl
    case hw117 => rfl
    case hy117 => (intro w hSw; (try dsimp only at hSw); go_simp; all_goals (first | done | with_reducible rfl))
    case hQ117 => exact fun _ _ _ h => h
    simp only [Act.put, List.setIfInBounds_toArray, List.set_cons_zero, List.set_cons_succ]
    refine wpAnyH_ready (rs := [16]) (by kernel_rfl) (by simp) ?_
    refine AllReadyH.cons (o := ?oi118) ?hi118 (fun K hK => ?step118) AllReadyH.nil
    case hi118 => simp only [List.getElem?_toArray, List.getElem?_cons_succ, List.getElem?_cons_zero]; rfl
    rw [if_pos (by rfl)]
    go_simp
    go_at_call 30
    refine ((CU.out _ HW8.out).2).mono ?_
    rintro e w9 ⟨v9, rfl, ho9, hb⟩
    obtain ⟨A9, c9, rfl, hc9, hm9⟩ := (Sl.of_own ho9).form
    have HW9 := hid (HW8.out.trans (hb.mono HW8.out.size))
    have s9 : w9.cell? ⟨bb, 0, none⟩ = some (.slice A1 n1 k1) ∧ w9.cell? ⟨bb, 1, none⟩ = some (.slice A2 n2 k2) ∧ w9.cell? ⟨bb, 2, none⟩ = some (.int .i64 q) := ⟨((KB.out.to HW9.out).2 0 _ rfl).1, ((KB.out.to HW9.out).2 1 _ rfl).1, ((KB.out.to HW9.out).2 2 _ rfl).1⟩
    have c9c : w9.cell? ⟨g6, 0, none⟩ = some (.string nm) := (hb.cell (p := ⟨g6, 0, none⟩) hl8).trans c8c
    have CH := lawHasText_c _ _ _ (childrenT L H q up.data.toList) nm w9 (Sl.of_own ho9)
    rw [decide_eq_true F2] at CH
    clear hb ho9
    refine hK.out _ _ ⟨s9, c9c⟩ (fun hS => ?_)
    refine wpAnyH_ready (rs := [18]) (by kernel_rfl) (by simp) ?_
    refine AllReadyH.cons (o := ?oi119) ?hi119 (fun K hK => ?step119) AllReadyH.nil
    case hi119 => simp only [List.getElem?_toArray, List.getElem?_cons_succ, List.getElem?_cons_zero]; rfl
    rw [if_pos (by rfl)]
    go_simp
    go_at_call 29
    refine CH.mono ?_
    rintro e w10 ⟨rfl, hw10⟩
    obtain rfl := hw10.symm
    clear hw10
    refine hK.out _ _ ⟨s9, c9c⟩ (fun hS => ?_)
    refine wpAnyH_take (i := 19) (oi := ?oi120) (v := ?v120) ?hi120 (by kernel_rfl) ?hf120 ?hr120 ?hQ120 (Or.inl ⟨?hw120, ?hy120⟩) (by assumption) ?rest120
    case hi120 => simp only [List.getElem?_toArray, List.getElem?_cons_succ, List.getElem?_cons_zero]; rfl
    case hf120 => kernel_rfl
    case hr120 => kernel_rfl
    case hw120 => rfl
    case hy120 => (intro w hSw; (try dsimp only at hSw); go_simp; all_goals (first | done | with_reducible rfl))
    case hQ120 => exact fun _ _ _ h => h
    simp only [Act.put, List.setIfInBounds_toArray, List.set_cons_zero, List.set_cons_succ]
    refine wpAnyH_take (i := 20) (oi := ?oi121) (v := ?v121) ?hi121 (by kernel_rfl) ?hf121 ?hr121 ?hQ121 (Or.inl ⟨?hw121, ?hy121⟩) (by assumption) ?rest121
    case hi121 => simp only [List.getElem?_toArray, List.getElem?_cons_succ, List.getElem?_cons_zero]; rfl
    case hf121 => kernel_rfl
    case hr121 => kernel_rfl
    case hw121 => rfl
    case hy121 => (intro w hSw; (try dsimp only at hSw); go_simp; all_goals (first | done | with_reducible rfl))
    case hQ121 => exact fun _ _ _ h => h
    simp only [Act.put, List.setIfInBounds_toArray, List.set_cons_zero, List.set_cons_succ]
    refine wpAnyH_done (by kernel_rfl) ?_ _
    go_wp2_with fail
    go_ret
    exact ⟨rfl, HB.out.trans (HW9.out.mono HB.out.size)⟩
end Go.Proofs.Yteammkclbgniiaa
